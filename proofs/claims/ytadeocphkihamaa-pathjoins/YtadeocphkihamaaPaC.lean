/-
  What Split of layer 23, and the document's, return, for every text: no statement is proved here.
-/
import Derived.Test.YtadeocphkihamaaPaB
import Derived.Test.YtadeocphkihamaaNamA
import Derived.WalkMore
import Derived.ScopeJumps
namespace Go.Proofs.Ytadeocphkihamaa
open Go.ChangeShapes Go.WideShapes Go.ChangeAt Go.RowKit
set_option linter.unusedVariables false
set_option linter.unusedSimpArgs false

theorem ct_next (R : List UInt8) : prt R = ctA R :: (if ctF R = true then prt (ctB R) else []) ∧ (ctB R).length + (if ctF R = true then 1 else 0) < R.length + 1 ∧ (ctB R).length ≤ R.length := by
  unfold ctA ctB ctF
  rcases prt_cut R with ⟨h1, h2⟩ | ⟨i, h1, h2, h3⟩
  · rw [h1]; simp [h2]
  · rw [h1]
    have hne : ¬ (i : Int) = -1 := by omega
    simp [hne, h3]; omega
theorem spE_no {l : List UInt8} (h : l.head? ≠ some 47) : spE l = 45 := by
  unfold spE
  rw [if_neg (fun e => by subst e; exact h rfl)]
  cases l with
  | nil => rfl
  | cons b r =>
    obtain ⟨x, xs, e1, e2⟩ := prt_no (b := b) (fun e => h (by subst e; rfl)) r
    rw [e2]
theorem spE_yes {r : List UInt8} (h : r ≠ []) : spE (47 :: r) = jE (prt r) := by
  unfold spE
  rw [if_neg (fun e => by injection e with _ e; exact h e), prt_sl]
  cases e : prt r with
  | nil => exact absurd e (prt_ne r)
  | cons x xs => rfl
theorem spN_yes {r : List UInt8} (h : r ≠ []) (he : jE (prt r) = 0) : spN (47 :: r) = prt r := by
  unfold spN
  rw [if_pos ⟨by rw [spE_yes h]; exact he, fun e => by injection e with _ e; exact h e⟩, prt_sl]; rfl
def mzV (v b : Value) : Nat := (match v with | .string s => s.size | _ => 0) + (match b with | .bool true => 1 | _ => 0)
theorem take17 (D : List (List UInt8)) (X : List UInt8) : (D.length ≤ 16 → (D ++ [X]).take 17 = D.take 17 ++ [X]) ∧ (16 < D.length → (D ++ [X]).take 17 = D.take 17) := by
  refine ⟨fun h => ?_, fun h => ?_⟩
  · rw [List.take_of_length_le (by simp; omega), List.take_of_length_le (by omega)]
  · rw [List.take_append_of_le_length (by omega)]
/-- What a text's names are told by. -/
def SpR (w' : World) (l : List UInt8) (e : Ending) : Prop := ∃ a n c, e = .returned (.tuple #[.slice a n c, .int .i64 (spE l)]) ∧ Sts w' a n c (spN l)
theorem spR_bad (w' : World) (l : List UInt8) (k : Int) (h : spE l = k) (hk : k ≠ 0) : SpR w' l (.returned (.tuple #[.slice none 0 0, .int .i64 k])) :=
  ⟨none, 0, 0, by rw [h], by rw [spN_no (by rw [h]; exact hk)]; exact Sts.nilSlice _⟩
theorem fr38 (t : Array Value) (h : t.size = 38) : ∃ vv0 vv1 vv2 vv3 vv4 vv5 vv6 vv7 vv8 vv9 vv10 vv11 vv12 vv13 vv14 vv15 vv16 vv17 vv18 vv19 vv20 vv21 vv22 vv23 vv24 vv25 vv26 vv27 vv28 vv29 vv30 vv31 vv32 vv33 vv34 vv35 vv36 vv37 : Value, t = #[vv0, vv1, vv2, vv3, vv4, vv5, vv6, vv7, vv8, vv9, vv10, vv11, vv12, vv13, vv14, vv15, vv16, vv17, vv18, vv19, vv20, vv21, vv22, vv23, vv24, vv25, vv26, vv27, vv28, vv29, vv30, vv31, vv32, vv33, vv34, vv35, vv36, vv37] := by
  obtain ⟨l⟩ := t
  have h' : l.length = 38 := h
  clear h
  rcases l with _ | ⟨vv0, _ | ⟨vv1, _ | ⟨vv2, _ | ⟨vv3, _ | ⟨vv4, _ | ⟨vv5, _ | ⟨vv6, _ | ⟨vv7, _ | ⟨vv8, _ | ⟨vv9, _ | ⟨vv10, _ | ⟨vv11, _ | ⟨vv12, _ | ⟨vv13, _ | ⟨vv14, _ | ⟨vv15, _ | ⟨vv16, _ | ⟨vv17, _ | ⟨vv18, _ | ⟨vv19, _ | ⟨vv20, _ | ⟨vv21, _ | ⟨vv22, _ | ⟨vv23, _ | ⟨vv24, _ | ⟨vv25, _ | ⟨vv26, _ | ⟨vv27, _ | ⟨vv28, _ | ⟨vv29, _ | ⟨vv30, _ | ⟨vv31, _ | ⟨vv32, _ | ⟨vv33, _ | ⟨vv34, _ | ⟨vv35, _ | ⟨vv36, _ | ⟨vv37, _ | ⟨vvy, lly⟩⟩⟩⟩⟩⟩⟩⟩⟩⟩⟩⟩⟩⟩⟩⟩⟩⟩⟩⟩⟩⟩⟩⟩⟩⟩⟩⟩⟩⟩⟩⟩⟩⟩⟩⟩⟩⟩⟩
  all_goals first | exact ⟨_, _, _, _, _, _, _, _, _, _, _, _, _, _, _, _, _, _, _, _, _, _, _, _, _, _, _, _, _, _, _, _, _, _, _, _, _, _, rfl⟩ | (simp at h')
section
variable {Q : Exit → Act → World → Prop} {a : Act} {w : World} {l : Nat} {J : Act → World → Prop}
theorem jump_ret : Exit.jump l J Q .ret a w = Q .ret a w := rfl
theorem jump_normal : Exit.jump l J Q .normal a w = Q .normal a w := rfl
theorem jump_exit (id : Nat) : Exit.jump l J Q (.exit id) a w = Q (.exit id) a w := rfl
end
/-- What holds at the jump to where a text is told to be no path. -/
def JmpS (l : List UInt8) (w : World) (a' : Act) (w' : World) : Prop := a'.tmps.size = 38 ∧ a'.defers = [] ∧ spE l = 45 ∧ Below w.heap.size w w'
set_option maxRecDepth 100000 in
set_option maxHeartbeats 4000000 in
theorem split_any (l : List UInt8) (w : World) (hl : l.length ≤ 5000) :
    Calls Try.prog 8 #[.string (str l)] w fun e w' => SpR w' l e ∧ Below w.heap.size w w' := by
  have H1 := pcut_any l
  have ht := str_list l
  by_cases h1 : l.head? = some 47
  · cases l with
    | nil => cases h1
    | cons b r =>
      obtain rfl : b = 47 := by simpa using h1
      rw [if_pos h1, decide_eq_true h1] at H1
      simp only [List.tail_cons] at H1
      cases r with
      | nil =>
        have fin : ∀ w', SpR w' [47] (.returned (.tuple #[.slice none 0 0, .int .i64 0])) := fun w' => ⟨none, 0, 0, by simp [spE], by rw [show spN [47] = [] by simp [spN]]; exact Sts.nilSlice _⟩
        go_enter Try.func8, Try.ntmps8
        go_wp2
        go_step3
        go_wp2_with (first
          | (go_at_call 19; refine (H1 _).mono ?_; rintro e u ⟨rfl, rfl⟩))
        rw [Exit.noGoto_ret]
        go_returns
        exact ⟨fin _, Below.refl _ _⟩
      | cons b2 r2 =>
        have hne : (b2 :: r2) ≠ [] := by simp
        have he := spE_yes hne
        have hN := spN_yes hne
        have e3 : ((47 :: b2 :: r2 : List UInt8) == [47]) = false := by simp
        have hlen : (b2 :: r2).length ≤ 5000 := by simp at hl ⊢; omega
        generalize (b2 :: r2 : List UInt8) = r at *
        have he' : Hid (spE (47 :: r) = jE (prt r)) := he
        have hN' : Hid (jE (prt r) = 0 → spN (47 :: r) = prt r) := hN
        clear he hN hl h1 hne
        go_enter Try.func8, Try.ntmps8
        go_wp2
        refine wp_scope_jumps 0 (JmpS (47 :: r) w) (fun _ _ => 0) rfl ?_ ?_
        rotate_left
        · intro a' u ⟨f1, f2, f3, f4⟩
          obtain ⟨t, d⟩ := a'
          obtain ⟨vv0, vv1, vv2, vv3, vv4, vv5, vv6, vv7, vv8, vv9, vv10, vv11, vv12, vv13, vv14, vv15, vv16, vv17, vv18, vv19, vv20, vv21, vv22, vv23, vv24, vv25, vv26, vv27, vv28, vv29, vv30, vv31, vv32, vv33, vv34, vv35, vv36, vv37, rfl⟩ := fr38 t f1
          obtain rfl : d = [] := f2
          have f5 : Hid (spE (47 :: r) = 45) := f3
          clear f3
          go_wp2
          rw [jump_ret]
          go_returns
          exact ⟨spR_bad _ _ 45 f5.out (by decide), f4⟩
        go_wp2_with (first
          | (go_at_call 19; refine (H1 _).mono ?_; rintro e u ⟨rfl, rfl⟩))
        go_loopw [4, 5, 6] (fun rv mv nv wr => ∃ (D : List (List UInt8)) (R : List UInt8) (m : Bool), rv = .string (str R) ∧ mv = .bool m ∧ R.length ≤ 5000 ∧ (∀ x ∈ D, nm x = true) ∧ prt r = D ++ (if m = true then prt R else []) ∧ OwT w.heap.size wr nv (D.take 17) ∧ Below w.heap.size w wr) (fun rv mv _ _ => mzV rv mv)
        case atStart => exact ⟨[], r, true, rfl, rfl, hlen, fun x hx => (by cases hx), by simp, OwT.none _, Below.refl _ _⟩
        case round =>
          obtain ⟨D, R, m, rfl, rfl, hR, hall, hp, hO, hB⟩ := hrel
          have hP : Hid (prt r = D ++ (if m = true then prt R else [])) := hp
          have hA : Hid (∀ x ∈ D, nm x = true) := hall
          clear hp hall
          obtain ⟨T, hTe⟩ : ∃ T, Hid (D.take 17 = T) := ⟨_, rfl⟩
          have hT : Hid (T.length = min 17 D.length) := by show _ = _; rw [← hTe.out]; simp
          rw [hTe.out] at hO
          obtain ⟨av, cv, rfl, hS, _⟩ := hO.shape
          cases m with
          | false =>
            have hP2 : Hid (prt r = D) := by show _ = _; rw [hP.out]; simp
            clear hP
            by_cases g : 16 < D.length
            · have hj : spE (47 :: r) = 3 := by rw [he'.out, hP2.out, jE_all hA.out, if_pos g]
              have g2 : (16 : Int) < (T.length : Int) := by have := hT.out; omega
              go_wp2
              rw [jump_ret]
              go_returns
              exact ⟨spR_bad _ _ 3 hj (by decide), hB⟩
            · have hj : jE (prt r) = 0 := by rw [hP2.out, jE_all hA.out, if_neg g]
              have g2 : ¬ (16 : Int) < (T.length : Int) := by have := hT.out; omega
              have e1 : Hid (T = spN (47 :: r)) := by show _ = _; rw [← hTe.out, hN'.out hj, hP2.out, List.take_of_length_le (by omega)]
              have e2 : Hid (spE (47 :: r) = 0) := by show _ = _; rw [he'.out, hj]
              go_wp2
              rw [jump_ret]
              go_returns
              exact ⟨⟨av, T.length, cv, by rw [e2.out]; rfl, by rw [← e1.out]; exact hS⟩, hB⟩
          | true =>
            obtain ⟨k1, k2, k3⟩ := ct_next R
            have HC := fun w => cut_any R w (by omega)
            have hP2 : Hid (prt r = (D ++ [ctA R]) ++ (if ctF R = true then prt (ctB R) else [])) := by show _ = _; rw [hP.out]; simp [k1]
            have hm : Hid ((ctB R).length + (if ctF R = true then 1 else 0) < R.length + 1) := k2
            have hlb : (ctB R).length ≤ 5000 := by omega
            clear hP k1 k2 k3
            generalize ctA R = X at *
            generalize ctB R = R2 at *
            generalize ctF R = F at *
            have HX := check_any X
            by_cases hx : nm X = true
            · have hnx : nE X = 0 := by unfold nE; rw [if_pos hx]
              rw [hnx] at HX
              have hA2 : Hid (∀ x ∈ D ++ [X], nm x = true) := fun x hh => by
                rcases List.mem_append.1 hh with h | h
                · exact hA.out x h
                · rw [List.mem_singleton.1 h]; exact hx
              clear hx hnx
              by_cases g : D.length ≤ 16
              · have g2 : (T.length : Int) ≤ 16 := by have := hT.out; omega
                have hk : Hid ((D ++ [X]).take 17 = T ++ [X]) := by show _ = _; rw [← hTe.out]; exact (take17 D X).1 g
                go_wp2_with (first
                  | (go_at_call 20; refine (HC _).mono ?_; rintro e w1 ⟨rfl, b1⟩)
                  | (go_at_call 21; refine (HX _).mono ?_; rintro e w2 ⟨rfl, b2⟩; have B2 := bnext b1 b2 (Nat.le_refl _); have hO2 := hO.later B2; have hB2 := bnext hB B2 (Nat.le_refl _))
                  | (refine at_bsT (by rfl) _ (by rfl) X (by rfl) ?_; intro g3 w3 a3 o3 b3; have hO3 := hO2.later b3; have hB3 := bnext hB2 b3 (Nat.le_refl _))
                  | (refine at_appT w.heap.size rfl _ _ (by rfl) (by rfl) hO3 _ 1 1 (by rfl) o3 (by have := hT.out; omega) hB3.size ?_; intro v4 w4 o4 s4))
                go_roundw
                case rel => exact ⟨D ++ [X], R2, F, rfl, rfl, hlb, hA2.out, hP2.out, by rw [hk.out]; exact o4, ((Stp.of_below hB3 (fun x => w.heap.size ≤ x)).next s4 (fun _ h => .inl h)).below (Nat.le_refl _) (fun _ h => h)⟩
                case measure => have := hm.out; cases F <;> simp [mzV, str_size] at this ⊢ <;> omega
              · have g2 : ¬ (T.length : Int) ≤ 16 := by have := hT.out; omega
                have hk : Hid ((D ++ [X]).take 17 = T) := by show _ = _; rw [← hTe.out]; exact (take17 D X).2 (by omega)
                go_wp2_with (first
                  | (go_at_call 20; refine (HC _).mono ?_; rintro e w1 ⟨rfl, b1⟩)
                  | (go_at_call 21; refine (HX _).mono ?_; rintro e w2 ⟨rfl, b2⟩; have B2 := bnext b1 b2 (Nat.le_refl _); have hO2 := hO.later B2; have hB2 := bnext hB B2 (Nat.le_refl _)))
                go_roundw
                case rel => exact ⟨D ++ [X], R2, F, rfl, rfl, hlb, hA2.out, hP2.out, by rw [hk.out]; exact hO2, hB2⟩
                case measure => have := hm.out; cases F <;> simp [mzV, str_size] at this ⊢ <;> omega
            · have hxf : nm X = false := by simpa using hx
              have hnx : nE X = 45 := by unfold nE; rw [if_neg hx]
              rw [hnx] at HX
              have hj : Hid (spE (47 :: r) = 45) := by show _ = _; rw [he'.out]; exact jE_bad X (by rw [hP2.out]; simp) hxf
              clear hx hnx hxf
              go_wp2_with (first
                | (go_at_call 20; refine (HC _).mono ?_; rintro e w1 ⟨rfl, b1⟩)
                | (go_at_call 21; refine (HX _).mono ?_; rintro e w2 ⟨rfl, b2⟩; have B2 := bnext b1 b2 (Nat.le_refl _); have hB2 := bnext hB B2 (Nat.le_refl _)))
              go_step3
              exact ⟨rfl, rfl, rfl, hj.out, hB2⟩
  · have he := spE_no h1
    rw [if_neg h1, decide_eq_false h1] at H1
    have e3 : (l == [47]) = false := by
      have : l ≠ [47] := fun e => h1 (by rw [e]; rfl)
      simpa using this
    have he' : Hid (spE l = 45) := he
    clear he h1
    go_enter Try.func8, Try.ntmps8
    go_wp2
    refine wp_scope_jumps 0 (JmpS l w) (fun _ _ => 0) rfl ?_ ?_
    · go_wp2_with (first
      | (go_at_call 19; refine (H1 _).mono ?_; rintro e u ⟨rfl, rfl⟩))
      go_step3
      exact ⟨rfl, rfl, rfl, he'.out, Below.refl _ _⟩
    · intro a' u ⟨f1, f2, f3, f4⟩
      obtain ⟨t, d⟩ := a'
      obtain ⟨vv0, vv1, vv2, vv3, vv4, vv5, vv6, vv7, vv8, vv9, vv10, vv11, vv12, vv13, vv14, vv15, vv16, vv17, vv18, vv19, vv20, vv21, vv22, vv23, vv24, vv25, vv26, vv27, vv28, vv29, vv30, vv31, vv32, vv33, vv34, vv35, vv36, vv37, rfl⟩ := fr38 t f1
      obtain rfl : d = [] := f2
      have f5 : Hid (spE l = 45) := f3
      clear f3
      go_wp2
      rw [jump_ret]
      go_returns
      exact ⟨spR_bad _ _ 45 f5.out (by decide), f4⟩
end Go.Proofs.Ytadeocphkihamaa
