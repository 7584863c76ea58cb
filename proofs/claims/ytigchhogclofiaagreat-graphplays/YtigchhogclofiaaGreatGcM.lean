/-
  What is needed, one by one from the end, as lists: no statement is proved here.
-/
import Derived.Test.YtigchhogclofiaaGreatRgL
import Derived.Test.YtigchhogclofiaaGreatGrY
namespace Go.Proofs.YtigchhogclofiaaGreat
set_option linter.unusedVariables false
set_option linter.unusedSimpArgs false

/-- What is wanted, where c were chosen. -/
def wS (is : List Int) (c : List Pt) (x : Int) : Bool := is.contains x || c.any fun q => q.needs.contains x
theorem wS_snoc (is : List Int) (c : List Pt) (p : Pt) : wS is (c ++ [p]) = fun x => wS is c x || p.needs.contains x := by
  funext x
  unfold wS
  rw [List.any_append]
  simp [Bool.or_assoc]
theorem wS_nil (is : List Int) : wS is [] = fun x => false || is.contains x := by funext x; simp [wS]
theorem meet_comm (a b : Pt) : meet a b = meet b a := by
  unfold meet
  rw [show (a.at' == b.at') = (b.at' == a.at') from Bool.beq_comm, show (a.kind != b.kind) = (b.kind != a.kind) from bne_comm, Bool.and_comm (decide (a.off < b.off + (b.data.length : Int)))]
theorem meet_at {a b : Pt} (h : meet a b = true) : a.at' = b.at' := by
  unfold meet at h
  simp only [Bool.and_eq_true, beq_iff_eq] at h
  exact h.1
theorem wnt_split (is : List Int) (c : List Pt) (p : Pt) : wnt is c p = (wS is c p.id || (!p.wr && (wtP c p.at').any fun q => meet q p)) := by
  unfold wnt wS
  rw [Bool.or_assoc]
  congr 1
  rw [Bool.eq_iff_iff]
  simp only [List.any_eq_true, Bool.or_eq_true, Bool.and_eq_true, Bool.not_eq_true']
  constructor
  · rintro ⟨q, hq, h | ⟨⟨h1, h2⟩, h3⟩⟩
    · exact .inl ⟨q, hq, h⟩
    · refine .inr ⟨h2, q, wtP_mem.2 ⟨hq, (meet_at h3).symm, h1⟩, ?_⟩
      rw [meet_comm]; exact h3
  · rintro (⟨q, hq, h⟩ | ⟨h2, q, hq, h3⟩)
    · exact ⟨q, hq, .inl h⟩
    · obtain ⟨h4, h5, h6⟩ := wtP_mem.1 hq
      refine ⟨q, h4, .inr ⟨⟨h6, h2⟩, ?_⟩⟩
      rw [meet_comm]; exact h3
theorem wnt_rev (is : List Int) (c : List Pt) (p : Pt) : wnt is c.reverse p = wnt is c p := by
  unfold wnt; rw [List.any_reverse]
/-- One more. -/
def chS (is : List Int) (l : List Pt) {m : Nat} (c : List Pt) (x : Fin m) : List Pt := match l[x.1]? with
  | some p => if wnt is c p then c ++ [p] else c
  | none => c
def chL (is : List Int) (l : List Pt) {m : Nat} (pre : List (Fin m)) : List Pt := pre.foldl (chS is l) []
theorem chL_nil (is : List Int) (l : List Pt) (m : Nat) : chL is l ([] : List (Fin m)) = [] := rfl
theorem chL_snoc (is : List Int) (l : List Pt) {m : Nat} (pre : List (Fin m)) (x : Fin m) : chL is l (pre ++ [x]) = chS is l (chL is l pre) x := by unfold chL; rw [List.foldl_append]; rfl
theorem chS_yes {is : List Int} {l : List Pt} {m : Nat} {c : List Pt} {x : Fin m} {p : Pt} (h : l[x.1]? = some p) (hw : wnt is c p = true) : chS is l c x = c ++ [p] := by unfold chS; rw [h]; simp [hw]
theorem chS_no {is : List Int} {l : List Pt} {m : Nat} {c : List Pt} {x : Fin m} {p : Pt} (h : l[x.1]? = some p) (hw : wnt is c p = false) : chS is l c x = c := by unfold chS; rw [h]; simp [hw]
theorem chS_sub {is : List Int} {l : List Pt} {m : Nat} {c : List Pt} (x : Fin m) (hc : ∀ q ∈ c, q ∈ l) : ∀ q ∈ chS is l c x, q ∈ l := by
  unfold chS
  cases h : l[x.1]? with
  | none => exact hc
  | some p =>
    simp only
    split
    · intro q hq
      rcases List.mem_append.1 hq with hq | hq
      · exact hc q hq
      · rw [List.mem_singleton.1 hq]; exact List.mem_of_getElem? h
    · exact hc
theorem chS_len {is : List Int} {l : List Pt} {m : Nat} {c : List Pt} (x : Fin m) : (chS is l c x).length ≤ c.length + 1 := by
  unfold chS
  cases h : l[x.1]? with
  | none => simp
  | some p =>
    simp only
    split
    · simp
    · omega
theorem chL_foldS {is : List Int} {l : List Pt} {m : Nat} : ∀ (pre : List (Fin m)) (c : List Pt), (∀ q ∈ c, q ∈ l) → (∀ q ∈ pre.foldl (chS is l) c, q ∈ l) ∧ (pre.foldl (chS is l) c).length ≤ c.length + pre.length
  | [], c, h => ⟨h, by simp⟩
  | x :: r, c, h => by
    have := chL_foldS (is := is) r (chS is l c x) (chS_sub x h)
    have h2 := chS_len (is := is) (l := l) (c := c) x
    refine ⟨this.1, ?_⟩
    have := this.2
    simp only [List.foldl_cons, List.length_cons]
    omega
theorem chL_sub {is : List Int} {l : List Pt} {m : Nat} (pre : List (Fin m)) : ∀ q ∈ chL is l pre, q ∈ l := (chL_foldS pre [] (fun q h => by cases h)).1
theorem chL_len {is : List Int} {l : List Pt} {m : Nat} (pre : List (Fin m)) : (chL is l pre).length ≤ pre.length := by
  have := (chL_foldS (is := is) (l := l) pre [] (fun q h => by cases h)).2
  rw [List.length_nil, Nat.zero_add] at this
  exact this
theorem chL_all {is : List Int} {l : List Pt} (el : Nat → Fin l.length) (hel : ∀ j, j < l.length → (el j).1 = j) : ∀ d j, d + j = l.length → chL is l (bk el l.length j) = (nd is (l.drop j)).reverse
  | 0, j, h => by
    obtain rfl : j = l.length := by omega
    rw [bk_end, List.drop_length]; rfl
  | d + 1, j, h => by
    have hj : j < l.length := by omega
    rw [bk_step el hj, chL_snoc, chL_all el hel d (j + 1) (by omega)]
    have hg : l[(el j).1]? = some l[j] := by rw [hel j hj]; exact List.getElem?_eq_getElem hj
    have hn := nd_drop (is := is) (List.getElem?_eq_getElem hj)
    rw [hn]
    cases hw : wnt is (nd is (l.drop (j + 1))) l[j] with
    | true =>
      rw [chS_yes hg (by rw [wnt_rev]; exact hw)]
      simp
    | false =>
      rw [chS_no hg (by rw [wnt_rev]; exact hw)]
      simp
/-- What is laid in the map of shades. -/
def shF (c : List Pt) (s : Int) : Option Value := if wtP c s = [] then none else some (.agg (shC (shB (wtP c s)) (shK (wtP c s))).toArray)
theorem shF_get (c : List Pt) (s : Int) : (shF c s).getD (.agg (shC 0 0).toArray) = .agg (shC (shB (wtP c s)) (shK (wtP c s))).toArray := by
  unfold shF
  split
  · rename_i h; rw [h]; rfl
  · rfl
theorem shF_nil : shF [] = fun _ => none := by funext s; simp [shF, wtP]
theorem shF_put (c : List Pt) (p : Pt) (hp : p.wr = false) : shF (c ++ [p]) = upd (shF c) p.at' (some (.agg (shC (shB (wtP c p.at' ++ [p])) (shK (wtP c p.at' ++ [p]))).toArray)) := by
  funext s
  unfold shF upd
  rw [wtP_snoc c p s hp]
  by_cases e : s = p.at'
  · subst e; simp
  · simp [e]
theorem shF_same (c : List Pt) (p : Pt) (hp : p.wr = true) : shF (c ++ [p]) = shF c := by
  funext s
  unfold shF
  have : wtP (c ++ [p]) s = wtP c s := by unfold wtP; rw [List.filter_append]; simp [inS, hp]
  rw [this]
theorem shF_keys (c : List Pt) (hc : ∀ q ∈ c, fit q = true) (s : Int) (h : (shF c s).isSome = true) : 0 ≤ s ∧ s < 2048 := by
  unfold shF at h
  split at h
  · cases h
  · rename_i hne
    obtain ⟨q, hq⟩ := List.exists_mem_of_ne_nil _ hne
    obtain ⟨h1, h2, _⟩ := wtP_mem.1 hq
    have := fit_to (hc q h1)
    omega
end Go.Proofs.YtigchhogclofiaaGreat
