/-
  What find and front of the document's cache do: no statement is proved here.
-/
import Derived.Test.YtecedklfdmbnpaaRcB
namespace Go.Proofs.Ytecedklfdmbnpaa
open Go.ChangeShapes Go.WideShapes Go.ChangeAt Go.RowKit
set_option linter.unusedVariables false
set_option linter.unusedSimpArgs false

/-- Where a sector stands. -/
def idx : El → Int → Nat
  | [], _ => 0
  | e :: r, i => if e.1 = i then 0 else idx r i + 1
theorem idx_some {l : El} {i : Int} {q : Pg} (h : fnd l i = some q) : idx l i < l.length ∧ l.getD (idx l i) e0 = (i, q) ∧ l.take (idx l i) ++ l.drop (idx l i + 1) = rmv l i := by
  induction l with
  | nil => cases h
  | cons a t ih =>
    unfold fnd at h
    unfold idx rmv
    by_cases e : a.1 = i
    · rw [if_pos e] at h
      injection h with h
      rw [if_pos e, if_pos e]
      refine ⟨by simp, ?_, by simp⟩
      rw [← h, ← e]; rfl
    · rw [if_neg e] at h
      obtain ⟨h1, h2, h3⟩ := ih h
      rw [if_neg e, if_neg e]
      refine ⟨by simpa using h1, by simpa using h2, ?_⟩
      rw [← h3]; simp
theorem set_idx {l : El} {i : Int} {q : Pg} (hn : (keys l).Nodup) (h : fnd l i = some q) (q' : Pg) : l.set (idx l i) (i, q') = stP l i q' := by
  induction l with
  | nil => cases h
  | cons a t ih =>
    rw [keys_cons, List.nodup_cons] at hn
    unfold fnd at h
    unfold idx stP
    rw [List.map_cons]
    by_cases e : a.1 = i
    · rw [if_pos e, if_pos e, List.set_cons_zero]
      congr 1
      have : ∀ x ∈ t, (if x.1 = i then (i, q') else x) = x := fun x hx => if_neg (fun e1 => hn.1 (by rw [e, ← e1]; exact List.mem_map_of_mem (f := (·.1)) hx))
      rw [List.map_congr_left this]; simp
    · rw [if_neg e] at h
      rw [if_neg e, if_neg e, List.set_cons_succ, ih hn.2 h]; rfl
def pos (l : El) (i : Int) : Int := match fnd l i with
  | none => -1
  | some _ => (idx l i : Int)
def posF (l : El) (i : Int) (k : Nat) : Int := match fnd (l.drop k) i with
  | none => -1
  | some _ => ((k + idx (l.drop k) i : Nat) : Int)
theorem posF_zero (l : El) (i : Int) : posF l i 0 = pos l i := by
  unfold posF pos; simp
theorem drop_at (l : El) (k : Nat) (hk : k < l.length) : l.drop k = l.getD k e0 :: l.drop (k + 1) := by
  rw [List.getD_eq_getElem?_getD, List.getElem?_eq_getElem hk, List.drop_eq_getElem_cons hk]; rfl
theorem posF_hit (l : El) (i : Int) (k : Nat) (hk : k < l.length) (h : (l.getD k e0).1 = i) : posF l i k = k := by
  unfold posF
  rw [drop_at l k hk]
  unfold fnd idx
  rw [if_pos h, if_pos h]; simp
theorem posF_next (l : El) (i : Int) (k : Nat) (hk : k < l.length) (h : ¬ (l.getD k e0).1 = i) : posF l i k = posF l i (k + 1) := by
  unfold posF
  rw [drop_at l k hk]
  conv => lhs; unfold fnd idx
  rw [if_neg h, if_neg h]
  cases fnd (l.drop (k + 1)) i with
  | none => rfl
  | some q => simp only; omega
theorem posF_end (l : El) (i : Int) : posF l i l.length = -1 := by
  unfold posF; rw [List.drop_length]; rfl
theorem onc_at {w : World} {g o : Nat} {e : Int × Pg} (h : w.rangeAt g o (onc e)) : w.cell? ⟨g, o, none⟩ = some (.int .i64 e.1) := by
  have := h 0 (.int .i64 e.1) rfl; simpa using this
theorem onc_ch {w : World} {g o : Nat} {e : Int × Pg} (h : w.rangeAt g o (onc e)) : w.cell? ⟨g, o + 65, none⟩ = some (.bool e.2.ch) := h 65 _ (by
  unfold onc Pg.cs
  rw [List.getElem?_cons_succ, List.getElem?_append_right (by rw [e.2.b.cs_len]; omega), e.2.b.cs_len]; rfl)
theorem onc_pn {w : World} {g o : Nat} {e : Int × Pg} (h : w.rangeAt g o (onc e)) : w.cell? ⟨g, o + 66, none⟩ = some (.int .i64 e.2.pn) := h 66 _ (by
  unfold onc Pg.cs
  rw [List.getElem?_cons_succ, List.getElem?_append_right (by rw [e.2.b.cs_len]; omega), e.2.b.cs_len]; rfl)
theorem onc_b {w : World} {g o : Nat} {e : Int × Pg} (h : w.rangeAt g o (onc e)) : w.rangeAt g (o + 1) e.2.b.cs := fun j v hv => by
  have := h (1 + j) v (by
    unfold onc Pg.cs
    rw [show 1 + j = j + 1 by omega, List.getElem?_cons_succ, List.getElem?_append_left (List.getElem?_eq_some_iff.1 hv).1]; exact hv)
  rwa [← Nat.add_assoc] at this
set_option maxRecDepth 100000 in
theorem rfind_any {w : World} {yc y q : Nat} {Z : CZ} {s : PS} {lv : Value} {E R : Nat → Prop} (H : Rx w yc y q Z s lv E R) (i : Int) (hl : Z.l.length ≤ 64) :
    Calls Try.prog 45 #[.pointer (some ⟨yc, 0, none⟩), .int .i64 i] w fun e w' => e = .returned (.int .i64 (pos Z.l i)) ∧ w = w' := by
  obtain ⟨y0, y1, y2, y3, y4⟩ := H.cells
  obtain ⟨a0, c0, rfl⟩ := H.ow.shape
  go_enter Try.func45, Try.ntmps45
  go_wp2
  go_loop [5] (fun v => ∃ k : Nat, k ≤ Z.l.length ∧ v = .int .i64 (k : Int) ∧ pos Z.l i = posF Z.l i k) (fun v => Z.l.length - (intOf v).toNat)
  case atStart => exact ⟨0, Nat.zero_le _, rfl, (posF_zero _ _).symm⟩
  case round =>
    obtain ⟨k, hk, rfl, hp⟩ := hrel
    by_cases hlt : k < Z.l.length
    · have hlt' : (k : Int) < (Z.l.length : Int) := by omega
      have hne : Z.l ≠ [] := by intro e; rw [e] at hlt; simp at hlt
      obtain ⟨g0, cap, cur, e1, hw⟩ := H.ow.row1 hne
      obtain ⟨p1, -, p2⟩ := Value.slice.inj e1
      subst p1; subst p2; clear e1
      have ck := onc_at (hw.range k hlt)
      by_cases he : (Z.l.getD k e0).1 = i
      · have hH : Hid (pos Z.l i = (k : Int)) := by show _ = _; rw [hp, posF_hit _ _ _ hlt he]
        clear hp
        rw [he] at ck
        go_wp2
        go_returns
        exact ⟨by rw [hH.out]; rfl, rfl⟩
      · have hH : Hid (pos Z.l i = posF Z.l i (k + 1)) := by show _ = _; rw [hp, posF_next _ _ _ hlt he]
        clear hp
        generalize (Z.l.getD k e0).1 = x at *
        go_wp2
        go_round
        case rel => exact ⟨k + 1, by omega, by go_num, hH.out⟩
        case measure => simp [intOf]; omega
    · obtain rfl : k = Z.l.length := by omega
      have hH : Hid (pos Z.l i = -1) := by show _ = _; rw [hp, posF_end]
      clear hp
      go_wp2
      go_returns
      exact ⟨by rw [hH.out]; rfl, rfl⟩
/-- All but one, of the first j. -/
def upT (l : El) (kk : Int) : Nat → El
  | 0 => []
  | j + 1 => if (j : Int) = kk then upT l kk j else upT l kk j ++ [l.getD j e0]
theorem upT_none (l : El) : ∀ n, n ≤ l.length → upT l (-1) n = l.take n
  | 0, _ => rfl
  | n + 1, h => by
    unfold upT
    rw [if_neg (by omega), upT_none l n (by omega), List.take_add_one, List.getD_eq_getElem?_getD, List.getElem?_eq_getElem (by omega)]; rfl
theorem upT_low (l : El) (k : Nat) : ∀ n, n ≤ k → n ≤ l.length → upT l (k : Int) n = l.take n
  | 0, _, _ => rfl
  | n + 1, h, h2 => by
    unfold upT
    rw [if_neg (by omega), upT_low l k n (by omega) (by omega), List.take_add_one, List.getD_eq_getElem?_getD, List.getElem?_eq_getElem (by omega)]; rfl
theorem upT_high (l : El) (k : Nat) (hk : k < l.length) : ∀ n, k < n → n ≤ l.length → upT l (k : Int) n = l.take k ++ (l.take n).drop (k + 1)
  | 0, h, _ => by omega
  | n + 1, h, h2 => by
    unfold upT
    by_cases e : n = k
    · subst e
      rw [if_pos rfl, upT_low l n n (by omega) (by omega), List.drop_eq_nil_of_le (by rw [List.length_take]; omega)]; simp
    · rw [if_neg (by omega), upT_high l k hk n (by omega) (by omega), List.append_assoc]
      congr 1
      rw [List.take_add_one, List.drop_append_of_le_length (by rw [List.length_take]; omega), List.getD_eq_getElem?_getD, List.getElem?_eq_getElem (by omega)]; rfl
theorem upT_rmv {l : El} {i : Int} {q : Pg} (h : fnd l i = some q) : upT l (idx l i : Int) l.length = rmv l i := by
  obtain ⟨h1, h2, h3⟩ := idx_some h
  rw [upT_high l _ h1 _ h1 (Nat.le_refl _), List.take_length, h3]
theorem upT_len (l : El) (kk : Int) : ∀ n, (upT l kk n).length ≤ n
  | 0 => Nat.le_refl _
  | n + 1 => by
    unfold upT
    have := upT_len l kk n
    split
    · omega
    · rw [List.length_append]; simp; omega
set_option maxRecDepth 100000 in
set_option maxHeartbeats 2000000 in
theorem rfront_any {w : World} {yc y q : Nat} {Z : CZ} {s : PS} {lv : Value} {E R : Nat → Prop} (H : Rx w yc y q Z s lv E R) (e : Int × Pg) (kk : Int) (hl : Z.l.length ≤ 64) :
    Calls Try.prog 64 #[.pointer (some ⟨yc, 0, none⟩), .agg (onc e).toArray, .int .i64 kk] w fun r w' => r = .returned (.tuple #[]) ∧ ∃ lv' E', Rx w' yc y q { Z with l := e :: upT Z.l kk Z.l.length } s lv' E' R ∧ Stp E w w' ∧ Grew E E' w w' := by
  obtain ⟨a0, c0, rfl⟩ := H.ow.shape
  go_enter Try.func64, Try.ntmps64
  go_wp2_with (first
    | (refine at_boxO (by rfl) _ (by rfl) e (by rfl) ?_; intro gb w1 a1 l1 r1 b1)
    | (refine at_getO (by rfl) _ (by rfl) gb 0 (by rfl) e r1.range ?_)
    | (refine at_bsO (by rfl) _ (by rfl) e (by rfl) ?_; intro go w2 a2 l2 r2 o2 b2))
  have B2 : Below w.heap.size w w2 := bnext b1 b2 (Nat.le_refl _)
  have hgo : w.heap.size ≤ go := Nat.le_trans b1.size a2
  have start : OwL w2 (.slice (some ⟨go, 0, none⟩) 1 1) (e :: upT Z.l kk 0) := o2
  clear o2 r2 r1 b1 b2
  go_loopw [6, 7] (fun vo vj wr => ∃ j : Nat, j ≤ Z.l.length ∧ vj = .int .i64 (j : Int) ∧ OwL wr vo (e :: upT Z.l kk j) ∧ New w.heap.size vo ∧ Below w.heap.size w wr) (fun _ vj _ => Z.l.length - (intOf vj).toNat)
  case atStart => exact ⟨0, Nat.zero_le _, rfl, start, (fun r hr => by have : go = r := by simpa [Value.ownBlock] using hr
                                                                       omega), B2⟩
  case round =>
    clear start
    obtain ⟨j, hj, rfl, ho, hN, hb⟩ := hrel
    have H2 := H.later hb
    obtain ⟨y0, y1, y2, y3, y4⟩ := H2.cells
    by_cases hlt : j < Z.l.length
    · have hlt' : (j : Int) < (Z.l.length : Int) := by omega
      have hne : Z.l ≠ [] := by intro e; rw [e] at hlt; simp at hlt
      obtain ⟨g0, cap, cur, e1, hw⟩ := H2.ow.row1 hne
      obtain ⟨p1, -, p2⟩ := Value.slice.inj e1
      subst p1; subst p2; clear e1
      have hrj := hw.range j hlt
      have hul := upT_len Z.l kk j
      by_cases hk : (j : Int) = kk
      · have hH : Hid (upT Z.l kk (j + 1) = upT Z.l kk j) := by show _ = _; conv => lhs; unfold upT
                                                                rw [if_pos hk]
        go_wp2
        go_roundw
        case rel => exact ⟨j + 1, by omega, by go_num, by rw [hH.out]; exact ho, hN, hb⟩
        case measure => simp [intOf]; omega
      · have hH : Hid (upT Z.l kk (j + 1) = upT Z.l kk j ++ [Z.l.getD j e0]) := by show _ = _; conv => lhs; unfold upT
                                                                                   rw [if_neg hk]
        generalize Z.l.getD j e0 = ej at *
        go_wp2_with (first
          | (refine at_getO (by rfl) _ (by rfl) g0 (j * 67) (by rfl) ej hrj ?_)
          | (refine at_bsO (by rfl) _ (by rfl) ej (by rfl) ?_; intro g3 w3 a3 l3 r3 o3 b3
             have ho3 := ho.later b3)
          | (at_builtin; refine at_appO rfl _ _ rfl rfl ho3 hN g3 ej rfl r3.range (by simp; omega) (Nat.le_trans hb.size b3.size) ?_; intro v4 w4 o4 n4 s4))
        go_roundw
        case rel => exact ⟨j + 1, by omega, by go_num, by rw [hH.out]; exact o4, n4, ((Stp.of_below (bnext hb b3 (Nat.le_refl _)) (fun x => w.heap.size ≤ x)).next s4 (fun x e => .inl (hN x e))).below (Nat.le_refl _) (fun _ h => h)⟩
        case measure => simp [intOf]; omega
    · obtain rfl : j = Z.l.length := by omega
      have v2 := H2.c.frozen 2
      obtain ⟨a7, c7, hu6⟩ := ho.shape
      subst hu6
      go_wp2
      first | go_end0 | refine bodyPost_ret (results_none rfl _ _ _) rfl ?_
      obtain ⟨E', H3, s3, g3⟩ := H.list (Z' := { Z with l := e :: upT Z.l kk Z.l.length }) (Stp.of_below hb _) rfl rfl rfl rfl rfl ho (fun r hr => .inr ⟨hN r hr, ho.lt hr⟩)
      exact ⟨rfl, _, E', H3, s3, g3⟩
end Go.Proofs.Ytecedklfdmbnpaa
