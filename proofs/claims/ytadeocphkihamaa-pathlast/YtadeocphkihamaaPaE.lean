/-
  What Join and Inside of layer 23, and the document's, return, for all names: no statement is proved here.
-/
import Derived.Test.YtadeocphkihamaaPaD
import Derived.Laws.Concat
namespace Go.Proofs.Ytadeocphkihamaa
open Go.ChangeShapes Go.WideShapes Go.ChangeAt Go.RowKit
set_option linter.unusedVariables false
set_option linter.unusedSimpArgs false

theorem exJ : Builder.Extra Try.prog Ytadeocphkihamaa.lays156_ren := {
  sizeBuilder := by kernel_rfl
  liesBuilder := by kernel_rfl
  t5 := Try.underlying5
  a5 := Try.isAgg5
  z5 := Try.sizeOf5
  v5 := Try.zeroValue5
  infoByte := by kernel_rfl
  cellsByte := by kernel_rfl
  sizeByte := by kernel_rfl
  neB5 := by decide }
theorem join_sls (L : List (List UInt8)) : 47 :: Lib.join L [47] = if L = [] then [47] else sls L := by
  cases L with
  | nil => rfl
  | cons x r =>
    rw [if_neg (by simp), Lib.join_cons, sls_cons]
    rfl
theorem map_data (L : List (List UInt8)) : (L.map str).map (fun s : ByteArray => s.data.toList) = L := by
  rw [List.map_map]
  have : ((fun s : ByteArray => s.data.toList) ∘ str) = id := by funext x; exact str_data x
  rw [this, List.map_id]
theorem join_lib (w : World) (a : Option Addr) (n c : Nat) (L : List (List UInt8)) (hS : Sts w a n c L) (hn : L.length ≤ 16) (hall : ∀ x ∈ L, nm x = true) :
    Calls Try.prog 24 #[.slice a n c, .string ⟨#[47]⟩] w fun e w' => e = .returned (.string (str (Lib.join L [47]))) ∧ Below w.heap.size w w' := by
  have hl := hS.len
  cases L with
  | nil =>
    obtain rfl : 0 = n := hl
    refine (Any.strings_Join_none Ytadeocphkihamaa.lays156 exJ a c ⟨#[47]⟩ w).mono ?_
    rintro e w' ⟨rfl, rfl⟩
    exact ⟨rfl, Below.refl _ _⟩
  | cons x r =>
    have h0 : 0 < n := by rw [← hl]; simp
    obtain ⟨b, o, rfl, hc⟩ := hS.cell h0
    have hlen : (Lib.join (x :: r) [47]).length ≤ 400 := by
      have h1 := join_sls (x :: r)
      rw [if_neg (by simp)] at h1
      have h2 := sls_len (x :: r) hall
      have h3 := congrArg List.length h1
      simp only [List.length_cons] at h2 h3 hn
      omega
    have H := Any.strings_Join Ytadeocphkihamaa.lays156 exJ b o c ((x :: r).map str) ⟨#[47]⟩ w (fun j y hy => by
      have hj := (List.getElem?_eq_some_iff.1 hy).1
      rw [List.length_map] at hj
      rw [List.getElem?_map, List.getElem?_eq_getElem hj] at hy
      injection hy with hy
      rw [hc j (by omega), List.getD_eq_getElem?_getD, List.getElem?_eq_getElem hj, ← hy]; rfl) (World.block_lt_of_cell? w _ (hc 0 h0)) (by simp only [List.length_map]; simp at hn ⊢; omega) (by have := hS.le; rw [List.length_map]; omega) (by rw [map_data]; show (Lib.join (x :: r) [47]).length ≤ _; omega)
    rw [map_data, List.length_map, hl] at H
    exact H
set_option maxRecDepth 100000 in
set_option maxHeartbeats 2000000 in
theorem join_anyP {w : World} {a : Option Addr} {n c : Nat} {L : List (List UInt8)} (hS : Sts w a n c L) (hL : L.length ≤ 1000) :
    Calls Try.prog 15 #[.slice a n c] w fun e w' => e = .returned (.tuple #[.string (str (jS L)), .int .i64 (jE L)]) ∧ Below w.heap.size w w' := by
  have hl := hS.len
  have hcell := hS.cell
  subst hl
  have hbad : Hid (∀ k, k < L.length → nm (L.getD k []) = false → jE L = 45 ∧ jS L = []) := fun k hk h => by
    have e : jE L = 45 := jE_bad (L.getD k []) (by rw [List.getD_eq_getElem?_getD, List.getElem?_eq_getElem hk]; exact List.getElem_mem hk) h
    exact ⟨e, by unfold jS; rw [e]; rfl⟩
  obtain ⟨E, hE⟩ : ∃ E, Hid (jE L = E) := ⟨_, rfl⟩
  obtain ⟨S, hSS⟩ : ∃ S, Hid (jS L = S) := ⟨_, rfl⟩
  rw [hE.out, hSS.out]
  have hbad2 : Hid (∀ k, k < L.length → nm (L.getD k []) = false → E = 45 ∧ S = []) := fun k hk h => by rw [← hE.out, ← hSS.out]; exact hbad.out k hk h
  clear hbad
  have hC : Hid (0 < L.length → ∃ b o, a = some ⟨b, o, none⟩ ∧ ∀ i, i < L.length → w.cell? ⟨b, o + i, none⟩ = some (.string (str (L.getD i [])))) := hcell
  have hJ := fun w' (hb : Below w.heap.size w w') h1 h2 => join_lib w' a L.length c L (hS.later hb) h1 h2
  have hJ' : Hid (∀ w', Below w.heap.size w w' → L.length ≤ 16 → (∀ x ∈ L, nm x = true) → Calls Try.prog 24 #[.slice a L.length c, .string ⟨#[47]⟩] w' fun e w'' => e = .returned (.string (str (Lib.join L [47]))) ∧ Below w'.heap.size w' w'') := hJ
  clear hcell hJ hS
  go_enter Try.func15, Try.ntmps15
  go_wp2
  go_loopw [9] (fun iv wr => ∃ k : Nat, iv = .int .i64 (k : Int) ∧ k ≤ L.length ∧ Below w.heap.size w wr ∧ ∀ j, j < k → nm (L.getD j []) = true) (fun iv _ => L.length - (intOf iv).toNat)
  case atStart => exact ⟨0, rfl, Nat.zero_le _, Below.refl _ _, fun j hj => absurd hj (by omega)⟩
  case round =>
    obtain ⟨k, rfl, hk, hB, hall⟩ := hrel
    have hA : Hid (∀ j, j < k → nm (L.getD j []) = true) := hall
    clear hall
    by_cases hlt : k < L.length
    · obtain ⟨b, o, rfl, hc⟩ := hC.out (by omega)
      have ck : wr.cell? ⟨b, o + k, none⟩ = some (.string (str (L.getD k []))) := (Stp.of_below hB (fun _ => False)).cell (hc k hlt) id
      have H1 := check_any (L.getD k [])
      have hb0 : Hid (nm (L.getD k []) = false → E = 45 ∧ S = []) := fun h => hbad2.out k hlt h
      have hb1 : Hid (nm (L.getD k []) = true → ∀ j, j < k + 1 → nm (L.getD j []) = true) := fun h j hj => by
        by_cases e : j < k
        · exact hA.out j e
        · obtain rfl : j = k := by omega
          exact h
      clear hc
      generalize L.getD k [] = X at *
      have a3 : (k : Int) < (L.length : Int) := by omega
      have a4 : (0 : Int) ≤ (k : Int) := by omega
      by_cases hx : nm X = true
      · have hnx : nE X = 0 := by unfold nE; rw [if_pos hx]
        rw [hnx] at H1
        have hA2 : Hid (∀ j, j < k + 1 → nm (L.getD j []) = true) := hb1.out hx
        clear hx hnx hb0 hb1
        go_wp2_with (first
          | (go_at_call 21; refine (H1 _).mono ?_; rintro e u ⟨rfl, b1⟩))
        go_roundw
        case rel => exact ⟨k + 1, by go_num, by omega, bnext hB b1 (Nat.le_refl _), hA2.out⟩
        case measure => simp [intOf]; omega
      · have hnx : nE X = 45 := by unfold nE; rw [if_neg hx]
        rw [hnx] at H1
        obtain ⟨q1, q2⟩ := hb0.out (by simpa using hx)
        have q1' : Hid (E = 45) := q1
        have q2' : Hid (S = []) := q2
        clear hx hnx hb0 hb1 q1 q2
        go_wp2_with (first
          | (go_at_call 21; refine (H1 _).mono ?_; rintro e u ⟨rfl, b1⟩))
        go_returns
        exact ⟨by rw [q1'.out, q2'.out]; rfl, bnext hB b1 (Nat.le_refl _)⟩
    · obtain rfl : k = L.length := by omega
      have hok : Hid (∀ x ∈ L, nm x = true) := fun x hx => by
        obtain ⟨j, hj, rfl⟩ := List.getElem_of_mem hx
        have := hA.out j hj
        rwa [List.getD_eq_getElem?_getD, List.getElem?_eq_getElem hj] at this
      have hj : jE L = if 16 < L.length then 3 else 0 := jE_all hok.out
      by_cases g : 16 < L.length
      · have h3 : Hid (E = 3) := by show _ = _; rw [← hE.out, hj, if_pos g]
        have hs : Hid (S = []) := by show _ = _; rw [← hSS.out]; unfold jS; rw [hj, if_pos g]; rfl
        have a3 : (16 : Int) < (L.length : Int) := by omega
        clear hj
        go_wp2
        go_returns
        exact ⟨by rw [h3.out, hs.out]; rfl, hB⟩
      · have h0 : Hid (E = 0) := by show _ = _; rw [← hE.out, hj, if_neg g]
        have hs : Hid (S = 47 :: Lib.join L [47]) := by show _ = _; rw [← hSS.out, join_sls]; unfold jS; rw [hj, if_neg g]; rfl
        have a3 : ¬ (16 : Int) < (L.length : Int) := by omega
        have HJ := hJ'.out wr hB (by omega) hok.out
        have hYl : (Lib.join L [47]).length ≤ 400 := by
          have h1 := jS_len L
          rw [hSS.out, hs.out] at h1
          simp only [List.length_cons] at h1; omega
        clear hj
        generalize Lib.join L [47] = Y at *
        have hq : ¬ 9223372036854775807 < 1 + (str Y).size := by rw [str_size]; omega
        have hcat : (⟨#[47]⟩ : ByteArray) ++ str Y = str (47 :: Y) := by
          apply ByteArray.ext
          unfold str; simp
        go_wp2_with (first
          | (go_at_call 24; refine HJ.mono ?_; rintro e u ⟨rfl, b1⟩))
        go_returns
        exact ⟨by rw [h0.out, hs.out]; rfl, bnext hB b1 (Nat.le_refl _)⟩
theorem sls_snoc (L : List (List UInt8)) (k : Nat) (h : k < L.length) : sls (L.take (k + 1)) = sls (L.take k) ++ 47 :: L.getD k [] := by
  unfold sls
  rw [List.take_add_one, List.getElem?_eq_getElem h, List.map_append, List.flatten_append, List.getD_eq_getElem?_getD, List.getElem?_eq_getElem h]
  simp
theorem str_cat (x y : List UInt8) : str x ++ str y = str (x ++ y) := by
  apply ByteArray.ext
  unfold str; simp
theorem str_cat0 (y : List UInt8) : (⟨#[47]⟩ : ByteArray) ++ str y = str (47 :: y) := str_cat [47] y
set_option maxRecDepth 100000 in
set_option maxHeartbeats 2000000 in
theorem rjoin_any {w : World} {a : Option Addr} {n c : Nat} {L : List (List UInt8)} (hS : Sts w a n c L) (hL : L.length ≤ 1000) :
    Calls Try.prog 16 #[.slice a n c] w fun e w' => e = .returned (.tuple #[.string (str (jS L)), .int .i64 (jE L)]) ∧ w = w' := by
  have hl := hS.len
  have hcell := hS.cell
  subst hl
  have hbad : Hid (∀ k, k < L.length → nm (L.getD k []) = false → jE L = 45 ∧ jS L = []) := fun k hk h => by
    have e : jE L = 45 := jE_bad (L.getD k []) (by rw [List.getD_eq_getElem?_getD, List.getElem?_eq_getElem hk]; exact List.getElem_mem hk) h
    exact ⟨e, by unfold jS; rw [e]; rfl⟩
  obtain ⟨E, hE⟩ : ∃ E, Hid (jE L = E) := ⟨_, rfl⟩
  obtain ⟨S, hSS⟩ : ∃ S, Hid (jS L = S) := ⟨_, rfl⟩
  rw [hE.out, hSS.out]
  have hbad2 : Hid (∀ k, k < L.length → nm (L.getD k []) = false → E = 45 ∧ S = []) := fun k hk h => by rw [← hE.out, ← hSS.out]; exact hbad.out k hk h
  have hC : Hid (0 < L.length → ∃ b o, a = some ⟨b, o, none⟩ ∧ ∀ i, i < L.length → w.cell? ⟨b, o + i, none⟩ = some (.string (str (L.getD i [])))) := hcell
  clear hcell hS hbad
  go_enter Try.func16, Try.ntmps16
  go_wp2
  go_loopw [4, 5] (fun sv iv wr => ∃ k : Nat, sv = .string (str (sls (L.take k))) ∧ iv = .int .i64 (k : Int) ∧ k ≤ L.length ∧ wr = w ∧ ∀ j, j < k → nm (L.getD j []) = true) (fun _ iv _ => L.length - (intOf iv).toNat)
  case atStart => exact ⟨0, rfl, rfl, Nat.zero_le _, rfl, fun j hj => absurd hj (by omega)⟩
  case round =>
    obtain ⟨k, rfl, rfl, hk, rfl, hall⟩ := hrel
    have hA : Hid (∀ j, j < k → nm (L.getD j []) = true) := hall
    clear hall
    by_cases hlt : k < L.length
    · obtain ⟨b, o, rfl, hc⟩ := hC.out (by omega)
      have ck := hc k hlt
      have H1 := rcheck_any (L.getD k [])
      have hb0 : Hid (nm (L.getD k []) = false → E = 45 ∧ S = []) := fun h => hbad2.out k hlt h
      have hb1 : Hid (nm (L.getD k []) = true → ∀ j, j < k + 1 → nm (L.getD j []) = true) := fun h j hj => by
        by_cases e : j < k
        · exact hA.out j e
        · obtain rfl : j = k := by omega
          exact h
      have hsn : Hid (sls (L.take (k + 1)) = sls (L.take k) ++ 47 :: L.getD k []) := sls_snoc L k hlt
      have hsl : Hid ((sls (L.take k)).length ≤ 11 * 1000) := by
        have h1 := sls_len (L.take k) (fun x hx => by
          obtain ⟨j, hj, rfl⟩ := List.getElem_of_mem hx
          have hj' : j < k := by simp at hj; omega
          have := hA.out j hj'
          rw [List.getD_eq_getElem?_getD, List.getElem?_eq_getElem (by omega)] at this
          simpa using this)
        have h2 : (L.take k).length ≤ 1000 := by simp; omega
        show _ ≤ _; omega
      have hXl : Hid (nm (L.getD k []) = true → (L.getD k []).length ≤ 10) := fun h => (nm_no h).2.2
      clear hc
      generalize L.getD k [] = X at *
      generalize sls (L.take k) = Y at *
      have a3 : (k : Int) < (L.length : Int) := by omega
      have a4 : (0 : Int) ≤ (k : Int) := by omega
      by_cases hx : nm X = true
      · have hnx : nE X = 0 := by unfold nE; rw [if_pos hx]
        rw [hnx] at H1
        have hA2 : Hid (∀ j, j < k + 1 → nm (L.getD j []) = true) := hb1.out hx
        have hX10 := hXl.out hx
        have hq0 : ¬ 9223372036854775807 < 1 + (str X).size := by rw [str_size]; omega
        have hq1 : ¬ 9223372036854775807 < (str Y).size + (str (47 :: X)).size := by rw [str_size, str_size]; have := hsl.out; simp only [List.length_cons]; omega
        have e1 := str_cat0 X
        have e2 := str_cat Y (47 :: X)
        have hX10' : Hid (X.length ≤ 10) := hX10
        clear hx hnx hb0 hb1 hX10
        go_wp2_with (first
          | (go_at_call 23; refine (H1 _).mono ?_; rintro e u ⟨rfl, rfl⟩))
        go_roundw
        case rel => exact ⟨k + 1, by rw [hsn.out], by go_num, by omega, by first | trivial | rfl, hA2.out⟩
        case measure => simp [intOf]; omega
      · have hnx : nE X = 45 := by unfold nE; rw [if_neg hx]
        rw [hnx] at H1
        obtain ⟨q1, q2⟩ := hb0.out (by simpa using hx)
        have q1' : Hid (E = 45) := q1
        have q2' : Hid (S = []) := q2
        clear hx hnx hb0 hb1 q1 q2
        go_wp2_with (first
          | (go_at_call 23; refine (H1 _).mono ?_; rintro e u ⟨rfl, rfl⟩))
        go_returns
        exact ⟨by rw [q1'.out, q2'.out]; rfl, rfl⟩
    · obtain rfl : k = L.length := by omega
      have hok : Hid (∀ x ∈ L, nm x = true) := fun x hx => by
        obtain ⟨j, hj, rfl⟩ := List.getElem_of_mem hx
        have := hA.out j hj
        rwa [List.getD_eq_getElem?_getD, List.getElem?_eq_getElem hj] at this
      have hj : jE L = if 16 < L.length then 3 else 0 := jE_all hok.out
      by_cases g : 16 < L.length
      · have h3 : Hid (E = 3) := by show _ = _; rw [← hE.out, hj, if_pos g]
        have hs : Hid (S = []) := by show _ = _; rw [← hSS.out]; unfold jS; rw [hj, if_pos g]; rfl
        have a3 : (16 : Int) < (L.length : Int) := by omega
        clear hj
        go_wp2
        go_returns
        exact ⟨by rw [h3.out, hs.out]; rfl, rfl⟩
      · have h0 : Hid (E = 0) := by show _ = _; rw [← hE.out, hj, if_neg g]
        have a3 : ¬ (16 : Int) < (L.length : Int) := by omega
        rw [List.take_length] at *
        by_cases hnil : L = []
        · have hs : Hid (S = [47]) := by show _ = _; rw [← hSS.out]; unfold jS; rw [hj, if_neg g, if_pos rfl, if_pos hnil]
          have hY : sls L = [] := by rw [hnil]; rfl
          rw [hY]
          clear hj hnil hY
          have hxe : (str ([] : List UInt8)).toList = [] := str_list []
          go_wp2
          go_returns
          exact ⟨by rw [h0.out, hs.out]; rfl, rfl⟩
        · have hs : Hid (S = sls L) := by show _ = _; rw [← hSS.out]; unfold jS; rw [hj, if_neg g, if_pos rfl, if_neg hnil]
          have hY : sls L ≠ [] := by
            cases L with
            | nil => exact absurd rfl hnil
            | cons x r => rw [sls_cons]; simp
          clear hj hnil
          generalize sls L = Y at *
          have hx1 : (str Y).toList = Y := str_list Y
          have hx2 : (Y == []) = false := by simpa using hY
          have hx3 : Y.isEmpty = false := by simpa using hY
          clear hY
          go_wp2
          go_returns
          exact ⟨by rw [h0.out, hs.out]; rfl, rfl⟩
theorem str_inj {x y : List UInt8} (h : str x = str y) : x = y := by
  have := congrArg (fun s : ByteArray => s.data.toList) h
  simpa [str_data] using this
theorem map_inj : ∀ {L M : List (List UInt8)}, L.map str = M.map str → L = M
  | [], [], _ => rfl
  | x :: L, y :: M, h => by
    simp only [List.map_cons, List.cons.injEq] at h
    rw [str_inj h.1, map_inj h.2]
theorem getD_map (L : List (List UInt8)) (j : Nat) (hj : j < L.length) : (L.map str).getD j ByteArray.empty = str (L.getD j []) := by
  rw [List.getD_eq_getElem?_getD, List.getElem?_map, List.getElem?_eq_getElem hj, List.getD_eq_getElem?_getD, List.getElem?_eq_getElem hj]; rfl
/-- slices.Equal of texts. -/
theorem eql_any {w : World} {a1 a2 : Option Addr} {n1 n2 c1 c2 : Nat} {L M : List (List UInt8)} (h1 : Sts w a1 n1 c1 L) (h2 : Sts w a2 n2 c2 M) (hl : L.length ≤ 100000) (hm : M.length ≤ 100000) :
    Calls Try.prog 25 #[.slice a1 n1 c1, .slice a2 n2 c2] w fun e w' => e = .returned (.bool (decide (L = M))) ∧ Below w.heap.size w w' := by
  have e1 := h1.len
  have e2 := h2.len
  by_cases h0 : n1 = 0
  · subst h0
    obtain rfl : L = [] := List.eq_nil_of_length_eq_zero e1
    refine (Any.slices_Equal_string_empty Ytadeocphkihamaa.lays193 a1 a2 c1 n2 c2 w (by omega)).mono ?_
    rintro e w' ⟨rfl, rfl⟩
    refine ⟨?_, Below.refl _ _⟩
    refine ret_bool (decide_eq_decide.2 ⟨fun h => ?_, fun h => ?_⟩)
    · exact (List.eq_nil_of_length_eq_zero (by omega)).symm
    · rw [← h] at e2; simpa using e2.symm
  by_cases hne : n1 = n2
  · subst hne
    obtain ⟨b1, o1, rfl, g1⟩ := h1.cell (by omega)
    obtain ⟨b2, o2, rfl, g2⟩ := h2.cell (by omega)
    refine (Any.slices_Equal_string Ytadeocphkihamaa.lays193 b1 o1 n1 c1 b2 o2 n1 c2 (L.map str) (M.map str) w (by simp; omega) (by simp; omega) (by omega) (by omega) (fun j hj => ?_) (fun j hj => ?_)).mono ?_
    · rw [List.length_map] at hj
      rw [g1 j (by omega), getD_map L j hj]
    · rw [List.length_map] at hj
      rw [g2 j (by omega), getD_map M j hj]
    · rintro e w' ⟨rfl, q, rfl⟩
      refine ⟨ret_bool (decide_eq_decide.2 ⟨fun h => ?_, fun h => ?_⟩), below_drewN w q⟩
      · rw [List.take_of_length_le (by simp; omega), List.take_of_length_le (by simp; omega)] at h
        exact map_inj h
      · rw [h]
  · refine (Any.slices_Equal_string_lens Ytadeocphkihamaa.lays193 a1 a2 n1 c1 n2 c2 w hne).mono ?_
    rintro e w' ⟨rfl, rfl⟩
    refine ⟨ret_bool (decide_eq_false (fun h => hne ?_)).symm, Below.refl _ _⟩
    rw [← e1, ← e2, h]
set_option maxRecDepth 100000 in
set_option maxHeartbeats 2000000 in
theorem inside_any {w : World} {a1 a2 : Option Addr} {n1 n2 c1 c2 : Nat} {L M : List (List UInt8)} (h1 : Sts w a1 n1 c1 L) (h2 : Sts w a2 n2 c2 M) (hl : L.length ≤ 10000) (hm : M.length ≤ 10000) :
    Calls Try.prog 17 #[.slice a1 n1 c1, .slice a2 n2 c2] w fun e w' => e = .returned (.bool (insB L M)) ∧ Below w.heap.size w w' := by
  have e1 := h1.len
  have e2 := h2.len
  by_cases g : n1 < n2
  · have HE := eql_any h1 (h2.take n1 (by omega)) (by omega) (by simp; omega)
    have hB : insB L M = decide (L = M.take n1) := by
      unfold insB
      refine decide_eq_decide.2 ⟨fun h => ?_, fun h => ?_⟩
      · have h' := h.2; rw [e1] at h'; exact h'.symm
      · exact ⟨by omega, by rw [e1]; exact h.symm⟩
    rw [hB]
    generalize decide (L = M.take n1) = B at *
    have c1 := h2.le
    have g1 : (n1 : Int) < (n2 : Int) := by omega
    have g2 : (0 : Int) ≤ (n1 : Int) := by omega
    have g3 : (n1 : Int) ≤ (n2 : Int) := by omega
    have g4 : (n1 : Int) ≤ (c2 : Int) := by omega
    clear hB e1 e2 h1 h2
    cases B <;> (
      go_enter Try.func17, Try.ntmps17
      go_wp2_with (first
        | (go_at_call 25; refine HE.mono ?_; rintro e w1 ⟨rfl, b1⟩))
      go_returns
      exact ⟨rfl, b1⟩)
  · have hB : insB L M = false := decide_eq_false (fun h => by have := h.1; omega)
    rw [hB]
    have g1 : ¬ (n1 : Int) < (n2 : Int) := by omega
    clear hB
    go_enter Try.func17, Try.ntmps17
    go_wp2
    go_returns
    exact ⟨rfl, Below.refl _ _⟩
set_option maxRecDepth 100000 in
set_option maxHeartbeats 2000000 in
theorem rinside_any {w : World} {a1 a2 : Option Addr} {n1 n2 c1 c2 : Nat} {L M : List (List UInt8)} (h1 : Sts w a1 n1 c1 L) (h2 : Sts w a2 n2 c2 M) (hl : L.length ≤ 10000) (hm : M.length ≤ 10000) :
    Calls Try.prog 18 #[.slice a1 n1 c1, .slice a2 n2 c2] w fun e w' => e = .returned (.bool (insB L M)) ∧ Below w.heap.size w w' := by
  have e1 := h1.len
  have e2 := h2.len
  obtain ⟨B, hB⟩ : ∃ B, Hid (insB L M = B) := ⟨_, rfl⟩
  rw [hB.out]
  by_cases g : n1 < n2
  · have ca : Hid (0 < n1 → ∃ b o, a1 = some ⟨b, o, none⟩ ∧ ∀ i, i < n1 → w.cell? ⟨b, o + i, none⟩ = some (.string (str (L.getD i [])))) := h1.cell
    have cb : Hid (0 < n2 → ∃ b o, a2 = some ⟨b, o, none⟩ ∧ ∀ i, i < n2 → w.cell? ⟨b, o + i, none⟩ = some (.string (str (M.getD i [])))) := h2.cell
    have hne : Hid (∀ k, k < n1 → L.getD k [] ≠ M.getD k [] → B = false) := fun k hk hn => by
      rw [← hB.out]
      refine decide_eq_false (fun h => hn ?_)
      have h' := h.2
      rw [← h', List.getD_eq_getElem?_getD, List.getElem?_take, if_pos (by omega), List.getD_eq_getElem?_getD]
    have hall : Hid ((∀ k, k < n1 → L.getD k [] = M.getD k []) → B = true) := fun h => by
      rw [← hB.out]
      refine decide_eq_true ⟨by omega, ?_⟩
      refine List.ext_getElem? (fun k => ?_)
      by_cases hk : k < n1
      · have := h k hk
        rw [List.getElem?_take, if_pos (by omega)]
        rw [List.getD_eq_getElem?_getD, List.getD_eq_getElem?_getD, List.getElem?_eq_getElem (by omega), List.getElem?_eq_getElem (by omega)] at this
        rw [List.getElem?_eq_getElem (by omega), List.getElem?_eq_getElem (by omega)]
        simpa using this.symm
      · rw [List.getElem?_eq_none (by simp; omega), List.getElem?_eq_none (by omega)]
    have hn1 : n1 ≤ 10000 := by omega
    have hn2 : n2 ≤ 10000 := by omega
    have g1 : (n1 : Int) < (n2 : Int) := by omega
    clear e1 e2 h1 h2 hl hm
    go_enter Try.func18, Try.ntmps18
    go_wp2
    go_loopw [5] (fun iv wr => ∃ k : Nat, iv = .int .i64 (k : Int) ∧ k ≤ n1 ∧ Below w.heap.size w wr ∧ ∀ j, j < k → L.getD j [] = M.getD j []) (fun iv _ => n1 - (intOf iv).toNat)
    case atStart => exact ⟨0, rfl, Nat.zero_le _, Below.refl _ _, fun j hj => absurd hj (by omega)⟩
    case round =>
      obtain ⟨k, rfl, hk, hBl, hsame⟩ := hrel
      have hS : Hid (∀ j, j < k → L.getD j [] = M.getD j []) := hsame
      clear hsame
      by_cases hlt : k < n1
      · obtain ⟨b1, o1, rfl, q1⟩ := ca.out (by omega)
        obtain ⟨b2, o2, rfl, q2⟩ := cb.out (by omega)
        have ck1 : wr.cell? ⟨b1, o1 + k, none⟩ = some (.string (str (L.getD k []))) := (Stp.of_below hBl (fun _ => False)).cell (q1 k hlt) id
        have ck2 : wr.cell? ⟨b2, o2 + k, none⟩ = some (.string (str (M.getD k []))) := (Stp.of_below hBl (fun _ => False)).cell (q2 k (by omega)) id
        have hn0 : Hid (L.getD k [] ≠ M.getD k [] → B = false) := hne.out k hlt
        have hs1 : Hid (L.getD k [] = M.getD k [] → ∀ j, j < k + 1 → L.getD j [] = M.getD j []) := fun h j hj => by
          by_cases e : j < k
          · exact hS.out j e
          · obtain rfl : j = k := by omega
            exact h
        clear q1 q2
        generalize L.getD k [] = X at *
        generalize M.getD k [] = Y at *
        have a9 : (k : Int) < (n1 : Int) := by omega
        have a8 : (0 : Int) ≤ (k : Int) := by omega
        have a7 : (k : Int) < (n2 : Int) := by omega
        have tX := str_list X
        have tY := str_list Y
        by_cases hx : X = Y
        · subst hx
          have hs2 : Hid (∀ j, j < k + 1 → L.getD j [] = M.getD j []) := hs1.out rfl
          clear hs1 hn0
          go_wp2
          go_region
          go_wp2
          go_roundw
          case rel => exact ⟨k + 1, by go_num, by omega, hBl.drew, hs2.out⟩
          case measure => simp [intOf]; omega
        · have hf : Hid (B = false) := hn0.out hx
          have hxb : (X == Y) = false := by simpa using hx
          clear hx hn0 hs1
          go_wp2
          go_region
          go_wp2
          go_returns
          exact ⟨by rw [hf.out]; rfl, hBl.drew⟩
      · obtain rfl : k = n1 := by omega
        have hf : Hid (B = true) := hall.out hS.out
        go_wp2
        go_returns
        exact ⟨by rw [hf.out]; rfl, hBl⟩
  · have hf : Hid (B = false) := by show _ = _; rw [← hB.out]; exact decide_eq_false (fun h => by have := h.1; omega)
    have g1 : ¬ (n1 : Int) < (n2 : Int) := by omega
    have g2 : (n2 : Int) ≤ (n1 : Int) := by omega
    go_enter Try.func18, Try.ntmps18
    go_wp2
    go_returns
    exact ⟨by rw [hf.out]; rfl, Below.refl _ _⟩
end Go.Proofs.Ytadeocphkihamaa
