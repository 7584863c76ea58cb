/-
  What the document's Split, and Last of both, return, for every text: no statement is proved here.
-/
import Derived.Test.YtadeocphkihamaaPaC
namespace Go.Proofs.Ytadeocphkihamaa
open Go.ChangeShapes Go.WideShapes Go.ChangeAt Go.RowKit
set_option linter.unusedVariables false
set_option linter.unusedSimpArgs false

theorem spE_prt {l : List UInt8} (h : l ≠ [47]) {x : List UInt8} {L : List (List UInt8)} (hp : prt l = x :: L) : spE l = if x = [] ∧ L ≠ [] then jE L else 45 := by
  unfold spE
  rw [if_neg h, hp]
  cases x with
  | nil =>
    cases L with
    | nil => simp
    | cons y ys => simp
  | cons b r => simp
theorem prt_len : ∀ l : List UInt8, (prt l).length ≤ l.length + 1
  | [] => by simp [prt]
  | b :: r => by
    have := prt_len r
    by_cases hb : b = 47
    · subst hb; rw [prt_sl]; simp; omega
    · obtain ⟨x, xs, e1, e2⟩ := prt_no hb r
      rw [e2]; rw [e1] at this; simp at this ⊢; omega
theorem spN_prt {l : List UInt8} (h : l ≠ [47]) {x : List UInt8} {L : List (List UInt8)} (hp : prt l = x :: L) (he : spE l = 0) : spN l = L := by
  unfold spN
  rw [if_pos ⟨he, h⟩, hp]; rfl
set_option maxRecDepth 100000 in
set_option maxHeartbeats 4000000 in
theorem rsplit_any (l : List UInt8) (w : World) (hl : l.length ≤ 5000) :
    Calls Try.prog 9 #[.string (str l)] w fun e w' => SpR w' l e ∧ Below w.heap.size w w' := by
  have ht := str_list l
  by_cases h1 : l = [47]
  · subst h1
    have fin : ∀ w', SpR w' [47] (.returned (.tuple #[.slice none 0 0, .int .i64 0])) := fun w' => ⟨none, 0, 0, by simp [spE], by rw [show spN [47] = [] by simp [spN]]; exact Sts.nilSlice _⟩
    go_enter Try.func9, Try.ntmps9
    go_wp2
    go_returns
    exact ⟨fin _, Below.refl _ _⟩
  · have e3 : (l == [47]) = false := by simpa using h1
    have HB := bsplit_any l w hl
    obtain ⟨x, L, hp⟩ : ∃ x L, prt l = x :: L := by
      cases e : prt l with
      | nil => exact absurd e (prt_ne l)
      | cons x L => exact ⟨x, L, rfl⟩
    have hpl := prt_len l
    rw [hp] at hpl
    replace hpl : (x :: L).length ≤ 5001 := by omega
    have hE := spE_prt h1 hp
    have hN := spN_prt h1 hp
    rw [hp] at HB
    have hE' : Hid (spE l = if x = [] ∧ L ≠ [] then jE L else 45) := hE
    have hN' : Hid (spE l = 0 → spN l = L) := hN
    clear hE hN h1 hp
    cases L with
    | nil =>
      have h45 : Hid (spE l = 45) := by show _ = _; rw [hE'.out]; simp
      clear hE' hN'
      go_enter Try.func9, Try.ntmps9
      go_wp2_with (first
        | (go_at_call 22; refine HB.mono ?_; rintro e w1 ⟨v, rfl, o1, b1⟩; obtain ⟨av, cv, rfl, hS, _⟩ := o1.shape))
      go_returns
      exact ⟨spR_bad _ _ 45 h45.out (by decide), b1⟩
    | cons y ys =>
      by_cases hx : x = []
      · subst hx
        have hE2 : Hid (spE l = jE (y :: ys)) := by show _ = _; rw [hE'.out]; simp
        clear hE'
        obtain ⟨L, hL⟩ : ∃ L, Hid (y :: ys = L) := ⟨_, rfl⟩
        have hn : Hid (1 ≤ L.length) := by show 1 ≤ L.length; rw [← hL.out]; simp
        rw [hL.out] at HB hE2 hN' hpl
        clear hL
        have hlen : ([] :: L : List (List UInt8)).length = L.length + 1 := rfl
        have hlen2 := hpl
        rw [hlen] at hlen2
        replace hlen2 : L.length ≤ 5001 := by omega
        obtain ⟨N, hNN⟩ : ∃ N, Hid (N = L.length + 1) := ⟨_, rfl⟩
        have HB2 : Calls Try.prog 22 #[.string (str l), .int .u8 47] w fun e w' => ∃ bb oo cv, e = .returned (.slice (some ⟨bb, oo, none⟩) (N) cv) ∧ Sts w' (some ⟨bb, oo, none⟩) (N) cv ([] :: L) ∧ (∀ i, i < N → w'.cell? ⟨bb, oo + i, none⟩ = some (.string (str (([] :: L).getD i [])))) ∧ Below w.heap.size w w' := by
          refine HB.mono ?_
          rintro e w1 ⟨v, rfl, o1, b1⟩
          obtain ⟨av, cv, rfl, hS, _⟩ := o1.shape
          rw [hlen] at hS
          rw [← hNN.out] at hS
          obtain ⟨bb, oo, rfl, hc⟩ := hS.cell (by have := hNN.out; omega)
          exact ⟨bb, oo, cv, by rw [hlen, ← hNN.out], hS, hc, b1⟩
        have hxe : (str ([] : List UInt8)).toList = [] := str_list []
        have a1 : ¬ (N : Int) < 2 := by have := hn.out; have := hNN.out; omega
        have a2 : (0 : Int) < (N : Int) := by have := hNN.out; omega
        have hlL : Hid (L.length ≤ 5001) := hlen2
        clear HB hlen hlen2
        go_enter Try.func9, Try.ntmps9
        go_wp2_with (first
          | (go_at_call 22; refine HB2.mono ?_; rintro e w1 ⟨bb, oo, cv, rfl, hS, hc, b1⟩; have c0 : w1.cell? ⟨bb, oo, none⟩ = some (.string (str [])) := hc 0 (by have := hNN.out; omega); have hC : Hid (∀ i, i < N → w1.cell? ⟨bb, oo + i, none⟩ = some (.string (str (([] :: L).getD i [])))) := hc; clear hc))
        go_loopw [5] (fun iv wr => ∃ k : Nat, iv = .int .i64 ((k + 1 : Nat) : Int) ∧ k ≤ L.length ∧ wr = w1 ∧ ∀ j, j < k → nm (L.getD j []) = true) (fun iv _ => N - (intOf iv).toNat)
        case atStart => exact ⟨0, rfl, Nat.zero_le _, rfl, fun j hj => absurd hj (by omega)⟩
        case round =>
          obtain ⟨k, rfl, hk, rfl, hall⟩ := hrel
          have hA : Hid (∀ j, j < k → nm (L.getD j []) = true) := hall
          clear hall
          by_cases hlt : k < L.length
          · have ck := hC.out (k + 1) (by have := hNN.out; omega)
            rw [show ([] :: L).getD (k + 1) [] = L.getD k [] from rfl] at ck
            have H1 := rcheck_any (L.getD k [])
            have hb0 : Hid (nm (L.getD k []) = false → spE l = 45) := fun h => by
              rw [hE2.out]
              refine jE_bad (L.getD k []) ?_ h
              rw [List.getD_eq_getElem?_getD, List.getElem?_eq_getElem hlt]; exact List.getElem_mem hlt
            have hb1 : Hid (nm (L.getD k []) = true → ∀ j, j < k + 1 → nm (L.getD j []) = true) := fun h j hj => by
              by_cases e : j < k
              · exact hA.out j e
              · obtain rfl : j = k := by omega
                exact h
            generalize L.getD k [] = X at *
            have hk9 : k ≤ 5001 := by have := hlL.out; omega
            have a3 : (k : Int) + 1 < (N : Int) := by have := hNN.out; omega
            have a4 : (0 : Int) ≤ (k : Int) + 1 := by omega
            have a5 : ((k : Int) + 1).toNat = k + 1 := by omega
            by_cases hx : nm X = true
            · have hnx : nE X = 0 := by unfold nE; rw [if_pos hx]
              rw [hnx] at H1
              have hA2 : Hid (∀ j, j < k + 1 → nm (L.getD j []) = true) := hb1.out hx
              clear hx hnx hb0 hb1
              go_wp2_with (first
                | (go_at_call 23; refine (H1 _).mono ?_; rintro e u ⟨rfl, rfl⟩))
              go_roundw
              case rel => exact ⟨k + 1, by go_num, by omega, trivial, hA2.out⟩
              case measure => have := hNN.out; simp [intOf]; omega
            · have hnx : nE X = 45 := by unfold nE; rw [if_neg hx]
              rw [hnx] at H1
              have h45 : Hid (spE l = 45) := hb0.out (by simpa using hx)
              clear hx hnx hb0 hb1
              go_wp2_with (first
                | (go_at_call 23; refine (H1 _).mono ?_; rintro e u ⟨rfl, rfl⟩))
              go_returns
              exact ⟨spR_bad _ _ 45 h45.out (by decide), b1⟩
          · obtain rfl : k = L.length := by omega
            have hj : jE L = if 16 < L.length then 3 else 0 := jE_all (fun x hx => by
              obtain ⟨j, hj, rfl⟩ := List.getElem_of_mem hx
              have := hA.out j hj
              rwa [List.getD_eq_getElem?_getD, List.getElem?_eq_getElem hj] at this)
            by_cases g : 16 < L.length
            · have h3 : Hid (spE l = 3) := by show _ = _; rw [hE2.out, hj, if_pos g]
              have a3 : (17 : Int) < (N : Int) := by have := hNN.out; omega
              have a4 : ¬ (L.length : Int) + 1 < (N : Int) := by have := hNN.out; omega
              clear hj
              go_wp2
              go_returns
              exact ⟨spR_bad _ _ 3 h3.out (by decide), b1⟩
            · have h0 : Hid (spE l = 0) := by show _ = _; rw [hE2.out, hj, if_neg g]
              have hL : Hid (spN l = L) := hN'.out h0.out
              have a3 : ¬ (17 : Int) < (N : Int) := by have := hNN.out; omega
              have a9 : ¬ (L.length : Int) + 1 < (N : Int) := by have := hNN.out; omega
              have a4 : (1 : Int) ≤ (N : Int) := by have := hNN.out; omega
              have hcv := hS.le
              have hcm := hS.cap
              have a5 : (1 : Int) ≤ (cv : Int) := by have := hNN.out; omega
              have a6 : ¬ cv = 1 := by have := hn.out; have := hNN.out; omega
              clear hj
              go_wp2
              go_returns
              refine ⟨⟨some ⟨bb, oo + 1, none⟩, N - 1, cv - 1, by rw [h0.out]; rfl, ?_⟩, b1⟩
              rw [hL.out]
              have hNo := hNN.out
              refine ⟨by omega, by omega, by omega, (fun e => by cases e), fun _ => ⟨bb, oo + 1, rfl, fun i hi => ?_⟩⟩
              have := hC.out (i + 1) (by omega)
              rw [show ([] :: L).getD (i + 1) [] = L.getD i [] from rfl] at this
              rw [Nat.add_assoc, Nat.add_comm 1 i]; exact this
      · have h45 : Hid (spE l = 45) := by show _ = _; rw [hE'.out]; simp [hx]
        clear hE' hN'
        have hx2 : (x == []) = false := by simpa using hx
        have hx1 : (str x).toList = x := str_list x
        have hx3 : x.isEmpty = false := by simpa using hx
        go_enter Try.func9, Try.ntmps9
        go_wp2_with (first
          | (go_at_call 22; refine HB.mono ?_; rintro e w1 ⟨v, rfl, o1, b1⟩; obtain ⟨av, cv, rfl, hS, _⟩ := o1.shape
             obtain ⟨bb, oo, rfl, hc⟩ := hS.cell (by simp)
             have c0 : w1.cell? ⟨bb, oo, none⟩ = some (.string (str x)) := hc 0 (by simp)))
        go_returns
        exact ⟨spR_bad _ _ 45 h45.out (by decide), b1⟩
/-- What a text's last name is told by. -/
def LaR (w' : World) (l : List UInt8) (e : Ending) : Prop := ∃ a n c, e = .returned (.tuple #[.slice a n c, .string (str (lsS l)), .int .i64 (lsE l)]) ∧ Sts w' a n c (lsN l)
theorem laR_bad (w' : World) (l : List UInt8) (k : Int) (hk : lsE l = k) (h : spN l = []) : LaR w' l (.returned (.tuple #[.slice none 0 0, .string ⟨#[]⟩, .int .i64 k])) := by
  have e1 : lsN l = [] := by unfold lsN; rw [h]; rfl
  have e2 : lsS l = [] := by unfold lsS; rw [h]; rfl
  exact ⟨none, 0, 0, by rw [hk, e2]; rfl, by rw [e1]; exact Sts.nilSlice _⟩
theorem laR_ok {w' : World} {l : List UInt8} {a : Option Addr} {n c : Nat} (hS : Sts w' a (n + 1) c (spN l)) (he : spE l = 0) (x : List UInt8) (hx : x = (spN l).getD n []) : LaR w' l (.returned (.tuple #[.slice a n c, .string (str x), .int .i64 0])) := by
  have hl := hS.len
  have hne : spN l ≠ [] := fun e => by rw [e] at hl; simp at hl
  have e0 : lsE l = 0 := by unfold lsE; rw [if_pos he, if_neg hne]
  have e1 : lsN l = (spN l).take n := by unfold lsN; rw [List.dropLast_eq_take, hl]; rfl
  have e2 : lsS l = x := by
    unfold lsS
    rw [hx, List.getLastD_eq_getLast?, List.getLast?_eq_getElem?, hl, List.getD_eq_getElem?_getD]; rfl
  exact ⟨a, n, c, by rw [e0, e2], by rw [e1]; exact hS.take n (by omega)⟩
set_option maxRecDepth 100000 in
set_option maxHeartbeats 2000000 in
theorem last_anyP (l : List UInt8) (w : World) (hl : l.length ≤ 5000) :
    Calls Try.prog 10 #[.string (str l)] w fun e w' => LaR w' l e ∧ Below w.heap.size w w' := by
  have H := split_any l w hl
  have hN0 : Hid (spE l ≠ 0 → spN l = []) := fun h => spN_no h
  have hle : Hid ((spN l).length ≤ 16) := spN_len l
  by_cases h0 : spE l = 0
  · by_cases hn : spN l = []
    · have h2 : Hid (lsE l = 2) := by show _ = _; unfold lsE; rw [if_pos h0, if_pos hn]
      have hn' : Hid (spN l = []) := hn
      have H2 : Calls Try.prog 8 #[.string (str l)] w fun e w' => ∃ a c, e = .returned (.tuple #[.slice a 0 c, .int .i64 0]) ∧ Below w.heap.size w w' := by
        refine H.mono ?_
        rintro e w1 ⟨⟨a, n, c, rfl, hS⟩, b⟩
        have := hS.len
        rw [hn] at this
        obtain rfl : 0 = n := this
        exact ⟨a, c, by rw [h0], b⟩
      clear H h0 hn
      go_enter Try.func10, Try.ntmps10
      go_wp2_with (first
        | (go_at_call 8; refine H2.mono ?_; rintro e w1 ⟨a, c, rfl, b1⟩))
      go_returns
      exact ⟨laR_bad _ _ 2 h2.out hn'.out, b1⟩
    · obtain ⟨n, hnl⟩ : ∃ n, (spN l).length = n + 1 := ⟨(spN l).length - 1, by have := List.length_pos_iff.2 hn; omega⟩
      have H2 : Calls Try.prog 8 #[.string (str l)] w fun e w' => ∃ bb oo c, e = .returned (.tuple #[.slice (some ⟨bb, oo, none⟩) (n + 1) c, .int .i64 0]) ∧ Sts w' (some ⟨bb, oo, none⟩) (n + 1) c (spN l) ∧ w'.cell? ⟨bb, oo + n, none⟩ = some (.string (str ((spN l).getD n []))) ∧ Below w.heap.size w w' := by
        refine H.mono ?_
        rintro e w1 ⟨⟨a, m, c, rfl, hS⟩, b⟩
        have := hS.len
        obtain rfl : n + 1 = m := by omega
        obtain ⟨bb, oo, rfl, hc⟩ := hS.cell (by omega)
        exact ⟨bb, oo, c, by rw [h0], hS, hc n (by omega), b⟩
      have hn16 : n ≤ 16 := by have := hle.out; omega
      obtain ⟨X, hX⟩ : ∃ X, Hid (X = (spN l).getD n []) := ⟨_, rfl⟩
      rw [← hX.out] at H2
      have h0' : Hid (spE l = 0) := h0
      clear H h0 hn hnl
      have a1 : ¬ (n : Int) + 1 = 0 := by omega
      have a2 : (0 : Int) ≤ (n : Int) := by omega
      have a3 : (n : Int) ≤ (n : Int) + 1 := by omega
      have a4 : (n : Int) < (n : Int) + 1 := by omega
      have a5 : IntKind.i64.wrap ((n : Int) + 1 - 1) = (n : Int) := by rw [IntKind.wrap_i64]; omega
      go_enter Try.func10, Try.ntmps10
      go_wp2_with (first
        | (go_at_call 8; refine H2.mono ?_; rintro e w1 ⟨bb, oo, c, rfl, hS, hc, b1⟩
           have hcc := hS.le
           have hcn : (n : Int) ≤ (c : Int) := by omega))
      go_region
      go_wp2
      go_returns
      exact ⟨laR_ok (hS.later (Below.refl _ _).drew) h0'.out X hX.out, b1.drew⟩
  · have h2 : Hid (lsE l = spE l) := by show _ = _; unfold lsE; rw [if_neg h0]
    have hn' : Hid (spN l = []) := hN0.out h0
    have H2 : Calls Try.prog 8 #[.string (str l)] w fun e w' => ∃ a n c, e = .returned (.tuple #[.slice a n c, .int .i64 (spE l)]) ∧ Below w.heap.size w w' := by
      refine H.mono ?_
      rintro e w1 ⟨⟨a, n, c, rfl, hS⟩, b⟩
      exact ⟨a, n, c, rfl, b⟩
    clear H
    generalize spE l = E at *
    go_enter Try.func10, Try.ntmps10
    go_wp2_with (first
      | (go_at_call 8; refine H2.mono ?_; rintro e w1 ⟨a, n, c, rfl, b1⟩))
    go_returns
    exact ⟨laR_bad _ _ _ h2.out hn'.out, b1⟩
set_option maxRecDepth 100000 in
set_option maxHeartbeats 2000000 in
theorem rlast_any (l : List UInt8) (w : World) (hl : l.length ≤ 5000) :
    Calls Try.prog 11 #[.string (str l)] w fun e w' => LaR w' l e ∧ Below w.heap.size w w' := by
  have H := rsplit_any l w hl
  have hN0 : Hid (spE l ≠ 0 → spN l = []) := fun h => spN_no h
  have hle : Hid ((spN l).length ≤ 16) := spN_len l
  by_cases h0 : spE l = 0
  · by_cases hn : spN l = []
    · have h2 : Hid (lsE l = 2) := by show _ = _; unfold lsE; rw [if_pos h0, if_pos hn]
      have hn' : Hid (spN l = []) := hn
      have H2 : Calls Try.prog 9 #[.string (str l)] w fun e w' => ∃ a c, e = .returned (.tuple #[.slice a 0 c, .int .i64 0]) ∧ Below w.heap.size w w' := by
        refine H.mono ?_
        rintro e w1 ⟨⟨a, n, c, rfl, hS⟩, b⟩
        have := hS.len
        rw [hn] at this
        obtain rfl : 0 = n := this
        exact ⟨a, c, by rw [h0], b⟩
      clear H h0 hn
      go_enter Try.func11, Try.ntmps11
      go_wp2_with (first
        | (go_at_call 9; refine H2.mono ?_; rintro e w1 ⟨a, c, rfl, b1⟩))
      go_returns
      exact ⟨laR_bad _ _ 2 h2.out hn'.out, b1⟩
    · obtain ⟨n, hnl⟩ : ∃ n, (spN l).length = n + 1 := ⟨(spN l).length - 1, by have := List.length_pos_iff.2 hn; omega⟩
      have H2 : Calls Try.prog 9 #[.string (str l)] w fun e w' => ∃ bb oo c, e = .returned (.tuple #[.slice (some ⟨bb, oo, none⟩) (n + 1) c, .int .i64 0]) ∧ Sts w' (some ⟨bb, oo, none⟩) (n + 1) c (spN l) ∧ w'.cell? ⟨bb, oo + n, none⟩ = some (.string (str ((spN l).getD n []))) ∧ Below w.heap.size w w' := by
        refine H.mono ?_
        rintro e w1 ⟨⟨a, m, c, rfl, hS⟩, b⟩
        have := hS.len
        obtain rfl : n + 1 = m := by omega
        obtain ⟨bb, oo, rfl, hc⟩ := hS.cell (by omega)
        exact ⟨bb, oo, c, by rw [h0], hS, hc n (by omega), b⟩
      have hn16 : n ≤ 16 := by have := hle.out; omega
      obtain ⟨X, hX⟩ : ∃ X, Hid (X = (spN l).getD n []) := ⟨_, rfl⟩
      rw [← hX.out] at H2
      have h0' : Hid (spE l = 0) := h0
      clear H h0 hn hnl
      have a1 : ¬ (n : Int) + 1 = 0 := by omega
      have a2 : (0 : Int) ≤ (n : Int) := by omega
      have a3 : (n : Int) ≤ (n : Int) + 1 := by omega
      have a4 : (n : Int) < (n : Int) + 1 := by omega
      have a5 : IntKind.i64.wrap ((n : Int) + 1 - 1) = (n : Int) := by rw [IntKind.wrap_i64]; omega
      go_enter Try.func11, Try.ntmps11
      go_wp2_with (first
        | (go_at_call 9; refine H2.mono ?_; rintro e w1 ⟨bb, oo, c, rfl, hS, hc, b1⟩
           have hcc := hS.le
           have hcn : (n : Int) ≤ (c : Int) := by omega))
      go_region
      go_wp2
      go_returns
      exact ⟨laR_ok (hS.later (Below.refl _ _).drew) h0'.out X hX.out, b1.drew⟩
  · have h2 : Hid (lsE l = spE l) := by show _ = _; unfold lsE; rw [if_neg h0]
    have hn' : Hid (spN l = []) := hN0.out h0
    have H2 : Calls Try.prog 9 #[.string (str l)] w fun e w' => ∃ a n c, e = .returned (.tuple #[.slice a n c, .int .i64 (spE l)]) ∧ Below w.heap.size w w' := by
      refine H.mono ?_
      rintro e w1 ⟨⟨a, n, c, rfl, hS⟩, b⟩
      exact ⟨a, n, c, rfl, b⟩
    clear H
    generalize spE l = E at *
    go_enter Try.func11, Try.ntmps11
    go_wp2_with (first
      | (go_at_call 9; refine H2.mono ?_; rintro e w1 ⟨a, n, c, rfl, b1⟩))
    go_returns
    exact ⟨laR_bad _ _ _ h2.out hn'.out, b1⟩
end Go.Proofs.Ytadeocphkihamaa
