/-
  Plain words of my own on paths: a text's parts, joined and split, and which names lie inside others: no statement is proved here.
-/
import Derived.Test.YtadeocphkihamaaDirM
import Derived.Lib.Bytealg
import Derived.Lib.IndexLaws
import Derived.Lib.Join
import Derived.Lib.Strings
namespace Go.Proofs.Ytadeocphkihamaa
set_option linter.unusedVariables false
set_option linter.unusedSimpArgs false

/-- A text's parts between its slashes. -/
def prt : List UInt8 → List (List UInt8)
  | [] => [[]]
  | b :: r => if b = 47 then [] :: prt r else match prt r with | [] => [[b]] | x :: xs => (b :: x) :: xs
theorem prt_ne : ∀ l, prt l ≠ []
  | [] => by simp [prt]
  | b :: r => by
    unfold prt
    split
    · simp
    · split <;> simp
theorem prt_sl (r : List UInt8) : prt (47 :: r) = [] :: prt r := by simp [prt]
theorem prt_no {b : UInt8} (h : b ≠ 47) (r : List UInt8) : ∃ x xs, prt r = x :: xs ∧ prt (b :: r) = (b :: x) :: xs := by
  cases e : prt r with
  | nil => exact absurd e (prt_ne r)
  | cons x xs => exact ⟨x, xs, rfl, by simp [prt, h, e]⟩
/-- A text without slashes is its one part; ahead of a slash it is the first. -/
theorem prt_one : ∀ (x : List UInt8), (∀ b ∈ x, b ≠ 47) → prt x = [x]
  | [], _ => rfl
  | b :: x, h => by
    obtain ⟨y, ys, e1, e2⟩ := prt_no (h b (by simp)) x
    rw [prt_one x (fun c hc => h c (by simp [hc]))] at e1
    injection e1 with e1 e3
    rw [e2, ← e1, ← e3]
theorem prt_app : ∀ (x r : List UInt8), (∀ b ∈ x, b ≠ 47) → prt (x ++ 47 :: r) = x :: prt r
  | [], r, _ => prt_sl r
  | b :: x, r, h => by
    obtain ⟨y, ys, e1, e2⟩ := prt_no (h b (by simp)) (x ++ 47 :: r)
    rw [prt_app x r (fun c hc => h c (by simp [hc]))] at e1
    injection e1 with e1 e3
    rw [List.cons_append, e2, ← e1, ← e3]
/-- The parts with slashes between are the text. -/
theorem prt_join : ∀ (p x : List UInt8) (xs : List (List UInt8)), prt p = x :: xs → p = x ++ (xs.map (47 :: ·)).flatten
  | [], x, xs, h => by
    simp [prt] at h
    obtain ⟨rfl, rfl⟩ := h
    rfl
  | b :: r, x, xs, h => by
    by_cases hb : b = 47
    · subst hb
      rw [prt_sl] at h
      injection h with h1 h2
      subst h1
      cases e : prt r with
      | nil => exact absurd e (prt_ne r)
      | cons y ys =>
        have := prt_join r y ys e
        rw [← h2, e, List.map_cons, List.flatten_cons, this]
        simp
    · obtain ⟨y, ys, e1, e2⟩ := prt_no hb r
      rw [e2] at h
      injection h with h1 h2
      subst h1; subst h2
      have := prt_join r y ys e1
      rw [this]; simp
/-- How a cut at the first slash goes on. -/
theorem prt_cut : ∀ (l : List UInt8), (Lib.indexByte l 47 = -1 ∧ prt l = [l]) ∨ ∃ i : Nat, Lib.indexByte l 47 = (i : Int) ∧ i < l.length ∧ prt l = l.take i :: prt (l.drop (i + 1))
  | [] => .inl ⟨rfl, rfl⟩
  | b :: r => by
    by_cases hb : b = 47
    · subst hb
      exact .inr ⟨0, by simp [Lib.indexByte], by simp, by simp [prt_sl]⟩
    · have hb' : (b == 47) = false := by simpa using hb
      obtain ⟨y, ys, e1, e2⟩ := prt_no hb r
      rcases prt_cut r with ⟨h1, h2⟩ | ⟨i, h1, h2, h3⟩
      · left
        rw [h2] at e1
        injection e1 with e1 e3
        exact ⟨by simp [Lib.indexByte, hb', h1], by rw [e2, ← e1, ← e3]⟩
      · right
        rw [h3] at e1
        injection e1 with e1 e3
        refine ⟨i + 1, ?_, by simp; omega, ?_⟩
        · have hne : ¬ Lib.indexByte r 47 = -1 := by omega
          simp [Lib.indexByte, hb', hne, h1]
        · rw [e2, ← e1, ← e3]; simp
/-- Whether these are names, and what their path is. -/
def okN (L : List (List UInt8)) : Bool := L.all nm
def jE (L : List (List UInt8)) : Int := if okN L = true then (if 16 < L.length then 3 else 0) else 45
def sls (L : List (List UInt8)) : List UInt8 := (L.map (47 :: ·)).flatten
def jS (L : List (List UInt8)) : List UInt8 := if jE L = 0 then (if L = [] then [47] else sls L) else []
/-- What a text's path says. -/
def spE (p : List UInt8) : Int := if p = [47] then 0 else match prt p with | [] :: y :: ys => jE (y :: ys) | _ => 45
def spN (p : List UInt8) : List (List UInt8) := if spE p = 0 ∧ p ≠ [47] then (prt p).tail else []
/-- The last name, and those ahead. -/
def lsE (p : List UInt8) : Int := if spE p = 0 then (if spN p = [] then 2 else 0) else spE p
def lsN (p : List UInt8) : List (List UInt8) := (spN p).dropLast
def lsS (p : List UInt8) : List UInt8 := (spN p).getLastD []
/-- Which names lie inside others. -/
def insB (a b : List (List UInt8)) : Bool := decide (a.length < b.length ∧ b.take a.length = a)
theorem okN_all {L : List (List UInt8)} (h : okN L = true) : ∀ x ∈ L, nm x = true := fun x hx => List.all_eq_true.1 h x hx
theorem okN_bad {L : List (List UInt8)} (x : List UInt8) (hx : x ∈ L) (h : nm x = false) : okN L = false := by
  cases e : okN L with
  | false => rfl
  | true => rw [okN_all e x hx] at h; cases h
theorem jE_bad {L : List (List UInt8)} (x : List UInt8) (hx : x ∈ L) (h : nm x = false) : jE L = 45 := by unfold jE; rw [if_neg (by rw [okN_bad x hx h]; decide)]
theorem jE_all {L : List (List UInt8)} (h : ∀ x ∈ L, nm x = true) : jE L = if 16 < L.length then 3 else 0 := by unfold jE; rw [if_pos (show okN L = true from List.all_eq_true.2 h)]
theorem jE_is {L : List (List UInt8)} (h : jE L = 0) : (∀ x ∈ L, nm x = true) ∧ L.length ≤ 16 := by
  unfold jE at h
  by_cases e : okN L = true
  · rw [if_pos e] at h
    refine ⟨okN_all e, ?_⟩
    by_cases h2 : 16 < L.length
    · rw [if_pos h2] at h; cases h
    · omega
  · rw [if_neg e] at h; cases h
theorem nm_no {x : List UInt8} (h : nm x = true) : (∀ b ∈ x, b ≠ 47) ∧ x ≠ [] ∧ x.length ≤ 10 := by
  obtain ⟨h1, h2⟩ := nm_is h
  refine ⟨fun b hb e => ?_, fun e => ?_, h1.2.1⟩
  · subst e; exact (h2 _ hb).2.2 rfl
  · subst e; have := h1.1; simp at this
theorem sls_cons (x : List UInt8) (L : List (List UInt8)) : sls (x :: L) = 47 :: (x ++ sls L) := by simp [sls]
theorem prt_sls : ∀ (L : List (List UInt8)) (x : List UInt8), (∀ y ∈ x :: L, nm y = true) → prt (x ++ sls L) = x :: L
  | [], x, h => by
    have := prt_one x (nm_no (h x (by simp))).1
    simpa [sls] using this
  | y :: L, x, h => by
    rw [sls_cons, prt_app x _ (nm_no (h x (by simp))).1, prt_sls L y (fun z hz => h z (by simp at hz ⊢; exact .inr hz))]
theorem sls_len : ∀ (L : List (List UInt8)), (∀ y ∈ L, nm y = true) → (sls L).length ≤ 11 * L.length
  | [], _ => by simp [sls]
  | x :: L, h => by
    have h1 := (nm_no (h x (by simp))).2.2
    have h2 := sls_len L (fun y hy => h y (by simp [hy]))
    rw [sls_cons]; simp; omega
theorem jS_len (L : List (List UInt8)) : (jS L).length ≤ 400 := by
  unfold jS
  by_cases h : jE L = 0
  · rw [if_pos h]
    by_cases e : L = []
    · rw [if_pos e]; simp
    · rw [if_neg e]
      have h1 := jE_is h
      have := sls_len L h1.1
      omega
  · rw [if_neg h]; simp
/-- Split of Join. -/
theorem split_join {L : List (List UInt8)} (h : jE L = 0) : spE (jS L) = 0 ∧ spN (jS L) = L := by
  unfold jS
  rw [if_pos h]
  cases L with
  | nil => exact ⟨by simp [spE], by simp [spN, spE]⟩
  | cons x L =>
    rw [if_neg (by simp)]
    have h1 := (jE_is h).1
    have hp : prt (sls (x :: L)) = [] :: x :: L := by rw [sls_cons, prt_sl, prt_sls L x h1]
    have hn : sls (x :: L) ≠ [47] := fun e => by
      rw [sls_cons] at e
      injection e with _ e
      have := (nm_no (h1 x (by simp))).2.1
      cases x with
      | nil => exact this rfl
      | cons b r => simp at e
    have he : spE (sls (x :: L)) = 0 := by unfold spE; rw [if_neg hn, hp]; exact h
    refine ⟨he, ?_⟩
    unfold spN
    rw [if_pos ⟨he, hn⟩, hp]; rfl
/-- Join of Split. -/
theorem join_split {p : List UInt8} (h : spE p = 0) : jE (spN p) = 0 ∧ jS (spN p) = p := by
  by_cases hp : p = [47]
  · subst hp
    have e : spN [47] = [] := by simp [spN]
    rw [e]
    exact ⟨by decide, by decide⟩
  · have e : spN p = (prt p).tail := by unfold spN; rw [if_pos ⟨h, hp⟩]
    rw [e]
    unfold spE at h
    rw [if_neg hp] at h
    revert h
    generalize hq : prt p = q
    intro h
    match q, hq, h with
    | [] :: y :: ys, hq, h =>
      refine ⟨h, ?_⟩
      show jS (y :: ys) = p
      unfold jS
      rw [if_pos h, if_neg (by simp)]
      have := prt_join p _ _ hq
      rw [this]; rfl
theorem spN_no {p : List UInt8} (h : spE p ≠ 0) : spN p = [] := by unfold spN; rw [if_neg (fun e => h e.1)]
theorem spN_len (p : List UInt8) : (spN p).length ≤ 16 := by
  by_cases h : spE p = 0
  · exact (jE_is (join_split h).1).2
  · rw [spN_no h]; simp
/-- The last name behind those ahead. -/
theorem last_join {p : List UInt8} (h : lsE p = 0) : spE p = 0 ∧ spN p ≠ [] ∧ lsN p ++ [lsS p] = spN p := by
  unfold lsE at h
  by_cases h1 : spE p = 0
  · rw [if_pos h1] at h
    by_cases h2 : spN p = []
    · rw [if_pos h2] at h; cases h
    · refine ⟨h1, h2, ?_⟩
      unfold lsN lsS
      rw [List.getLastD_eq_getLast?, List.getLast?_eq_some_getLast h2, Option.getD_some, List.dropLast_concat_getLast]
  · rw [if_neg h1] at h; exact absurd h h1
theorem ins_self (a : List (List UInt8)) : insB a a = false := decide_eq_false (fun h => by omega)
theorem ins_app (a b : List (List UInt8)) : insB a (a ++ b) = decide (0 < b.length) := by
  unfold insB
  by_cases h : 0 < b.length
  · rw [decide_eq_true h]
    exact decide_eq_true ⟨by simp; omega, by simp⟩
  · rw [decide_eq_false h]
    exact decide_eq_false (fun e => by have := e.1; simp at this; omega)
theorem ins_is {a b : List (List UInt8)} (h : insB a b = true) : a.length < b.length ∧ b.take a.length = a := of_decide_eq_true h
theorem ins_trans {a b c : List (List UInt8)} (h : insB a b = true) (k : insB b c = true) : insB a c = true := by
  have h1 := ins_is h
  have h2 := ins_is k
  refine decide_eq_true ⟨by omega, ?_⟩
  have e : (c.take b.length).take a.length = a := by rw [h2.2]; exact h1.2
  rwa [List.take_take, Nat.min_eq_left (by omega)] at e
/-- Names of one's own, so many at most. -/
def fewN (L : List (List UInt8)) : List (List UInt8) := (L.take 30).map (·.take 40)
theorem fewN_len (L : List (List UInt8)) : (fewN L).length ≤ 30 := by simp [fewN]; omega
theorem fewN_idem (L : List (List UInt8)) : fewN (fewN L) = fewN L := by
  unfold fewN
  rw [List.map_take, List.take_of_length_le (by simp; omega), List.map_map]
  exact congrArg (fun f => List.map f (L.take 30)) (by funext x; simp [List.take_take])
end Go.Proofs.Ytadeocphkihamaa
