/-
  What meet of the document's graph returns, and which are ready as plain lists: no statement is proved here.
-/
import Derived.Test.YtdfifneikmlmoaaGreatRgD
namespace Go.Proofs.YtdfifneikmlmoaaGreat
open Go.ChangeShapes Go.WideShapes Go.ChangeAt Go.RowKit
set_option linter.unusedVariables false
set_option linter.unusedSimpArgs false

set_option maxRecDepth 100000 in
set_option maxHeartbeats 2000000 in
theorem rmeet_any (w : World) (t u : Pe) (ht : fit t.p = true) (hu : fit u.p = true) (h1 : t.d.n = t.p.data.length) (h2 : u.d.n = u.p.data.length) :
    Calls Tryz.prog 67 #[.agg t.cs.toArray, .agg u.cs.toArray] w fun e w' => e = .returned (.bool (meet t.p u.p)) ∧ Below w.heap.size w w' := by
  have t1 : True := trivial
  have t2 : True := trivial
  obtain ⟨x1, x2, x3, x4, x5, x6, x7⟩ := fit_to ht
  obtain ⟨y1, y2, y3, y4, y5, y6, y7⟩ := fit_to hu
  obtain ⟨p, ⟨da, dn, dc⟩, n⟩ := t
  obtain ⟨q, ⟨ea, en, ec⟩, m⟩ := u
  simp only at h1 h2 x1 x2 x3 x4 x5 x6 x7 y1 y2 y3 y4 y5 y6 y7 ⊢
  subst h1
  subst h2
  have lp : p.data.length ≤ maxLen := Nat.le_trans (show p.data.length ≤ 64 by omega) (by decide)
  have lq : q.data.length ≤ maxLen := Nat.le_trans (show q.data.length ≤ 64 by omega) (by decide)
  have key : ∀ b : Bool, meet p q = b → Hid (meet p q = b) := fun _ h => h
  have fin : ∀ w1 w2, Below w.heap.size w w1 → Below w1.heap.size w1 w2 → Below w.heap.size w w2 := fun _ _ h k => bnext h k (Nat.le_refl _)
  by_cases ha : p.at' = q.at'
  · by_cases hk : p.kind = q.kind
    · by_cases ho : p.off < q.off + (q.data.length : Int)
      · by_cases ho2 : q.off < p.off + (p.data.length : Int)
        · have hm := key true (by unfold meet; simp [ha, hk, ho, ho2])
          go_enter Tryz.func67, Tryz.ntmps67
          go_wp2_with (first
            | (clear t1; refine at_boxC 54 (by rfl) _ (by rfl) (Pe.cs ⟨p, ⟨da, p.data.length, dc⟩, n⟩) (by rfl) (Pe.cs_one _) ?_; intro g1 w1 a1 a2 r1 b1)
            | (clear t2; refine at_boxC 54 (by rfl) _ (by rfl) (Pe.cs ⟨q, ⟨ea, q.data.length, ec⟩, m⟩) (by rfl) (Pe.cs_one _) ?_; intro g2 w2 a3 a4 r2 b2; obtain ⟨p0, p1, p2, p3, p4, _⟩ := Pt.cells (r1.later b2); obtain ⟨q0, q1, q2, q3, q4, _⟩ := Pt.cells r2))
          go_returns
          rw [hm.out]; exact ⟨rfl, fin _ _ b1 b2⟩
        · have hm := key false (by unfold meet; simp [ha, hk, ho, ho2])
          go_enter Tryz.func67, Tryz.ntmps67
          go_wp2_with (first
            | (clear t1; refine at_boxC 54 (by rfl) _ (by rfl) (Pe.cs ⟨p, ⟨da, p.data.length, dc⟩, n⟩) (by rfl) (Pe.cs_one _) ?_; intro g1 w1 a1 a2 r1 b1)
            | (clear t2; refine at_boxC 54 (by rfl) _ (by rfl) (Pe.cs ⟨q, ⟨ea, q.data.length, ec⟩, m⟩) (by rfl) (Pe.cs_one _) ?_; intro g2 w2 a3 a4 r2 b2; obtain ⟨p0, p1, p2, p3, p4, _⟩ := Pt.cells (r1.later b2); obtain ⟨q0, q1, q2, q3, q4, _⟩ := Pt.cells r2))
          go_returns
          rw [hm.out]; exact ⟨rfl, fin _ _ b1 b2⟩
      · have hm := key false (by unfold meet; simp [ha, hk, ho])
        go_enter Tryz.func67, Tryz.ntmps67
        go_wp2_with (first
          | (clear t1; refine at_boxC 54 (by rfl) _ (by rfl) (Pe.cs ⟨p, ⟨da, p.data.length, dc⟩, n⟩) (by rfl) (Pe.cs_one _) ?_; intro g1 w1 a1 a2 r1 b1)
          | (clear t2; refine at_boxC 54 (by rfl) _ (by rfl) (Pe.cs ⟨q, ⟨ea, q.data.length, ec⟩, m⟩) (by rfl) (Pe.cs_one _) ?_; intro g2 w2 a3 a4 r2 b2; obtain ⟨p0, p1, p2, p3, p4, _⟩ := Pt.cells (r1.later b2); obtain ⟨q0, q1, q2, q3, q4, _⟩ := Pt.cells r2))
        go_returns
        rw [hm.out]; exact ⟨rfl, fin _ _ b1 b2⟩
    · have hm := key true (by unfold meet; simp [ha, hk])
      go_enter Tryz.func67, Tryz.ntmps67
      go_wp2_with (first
        | (clear t1; refine at_boxC 54 (by rfl) _ (by rfl) (Pe.cs ⟨p, ⟨da, p.data.length, dc⟩, n⟩) (by rfl) (Pe.cs_one _) ?_; intro g1 w1 a1 a2 r1 b1)
        | (clear t2; refine at_boxC 54 (by rfl) _ (by rfl) (Pe.cs ⟨q, ⟨ea, q.data.length, ec⟩, m⟩) (by rfl) (Pe.cs_one _) ?_; intro g2 w2 a3 a4 r2 b2; obtain ⟨p0, p1, p2, p3, p4, _⟩ := Pt.cells (r1.later b2); obtain ⟨q0, q1, q2, q3, q4, _⟩ := Pt.cells r2))
      go_returns
      rw [hm.out]; exact ⟨rfl, fin _ _ b1 b2⟩
  · have hm := key false (by unfold meet; simp [ha])
    go_enter Tryz.func67, Tryz.ntmps67
    go_wp2_with (first
      | (clear t1; refine at_boxC 54 (by rfl) _ (by rfl) (Pe.cs ⟨p, ⟨da, p.data.length, dc⟩, n⟩) (by rfl) (Pe.cs_one _) ?_; intro g1 w1 a1 a2 r1 b1)
      | (clear t2; refine at_boxC 54 (by rfl) _ (by rfl) (Pe.cs ⟨q, ⟨ea, q.data.length, ec⟩, m⟩) (by rfl) (Pe.cs_one _) ?_; intro g2 w2 a3 a4 r2 b2; obtain ⟨p0, p1, p2, p3, p4, _⟩ := Pt.cells (r1.later b2); obtain ⟨q0, q1, q2, q3, q4, _⟩ := Pt.cells r2))
    go_returns
    rw [hm.out]; exact ⟨rfl, fin _ _ b1 b2⟩
/-- Whether one that comes behind acc is ready. -/
def rbS (l : List Pt) (acc : List (Pt × Bool)) (p : Pt) : Bool := !p.wr && !held l p && acc.all fun t => t.1.wr || !meet t.1 p || t.2
def rbs (l : List Pt) : List (Pt × Bool) → List Pt → List (Pt × Bool)
  | acc, [] => acc
  | acc, p :: r => rbs l (acc ++ [(p, rbS l acc p)]) r
/-- The first k, and which of them are ready. -/
def rb (l : List Pt) (k : Nat) : List (Pt × Bool) := rbs l [] (l.take k)
theorem rbs_snoc (l : List Pt) : ∀ (r : List Pt) (acc : List (Pt × Bool)) (p : Pt), rbs l acc (r ++ [p]) = rbs l acc r ++ [(p, rbS l (rbs l acc r) p)]
  | [], acc, p => rfl
  | a :: r, acc, p => by rw [List.cons_append, rbs, rbs, rbs_snoc l r]
theorem rbs_fst (l : List Pt) : ∀ (r : List Pt) (acc : List (Pt × Bool)), (rbs l acc r).map (·.1) = acc.map (·.1) ++ r
  | [], acc => by simp [rbs]
  | a :: r, acc => by rw [rbs, rbs_fst l r]; simp
theorem rb_step {l : List Pt} {k : Nat} {p : Pt} (h : l[k]? = some p) : rb l (k + 1) = rb l k ++ [(p, rbS l (rb l k) p)] := by
  unfold rb
  rw [List.take_add_one, h]
  exact rbs_snoc l _ _ _
theorem rb_fst (l : List Pt) (k : Nat) : (rb l k).map (·.1) = l.take k := by unfold rb; rw [rbs_fst]; simp
theorem rb_len {l : List Pt} {k : Nat} (h : k ≤ l.length) : (rb l k).length = k := by
  have := congrArg List.length (rb_fst l k)
  simp at this; omega
theorem rbs_pre (l : List Pt) : ∀ (r : List Pt) (acc : List (Pt × Bool)), acc <+: rbs l acc r
  | [], acc => List.prefix_refl _
  | a :: r, acc => by rw [rbs]; exact (List.prefix_append acc _).trans (rbs_pre l r _)
theorem rb_get {l : List Pt} {i k : Nat} {p : Pt} (h : l[i]? = some p) (hk : i < k) (hkl : k ≤ l.length) : (rb l k)[i]? = some (p, rbS l (rb l i) p) := by
  have hi : i < l.length := by omega
  have e : l.take k = l.take (i + 1) ++ (l.take k).drop (i + 1) := by
    conv => lhs; rw [← List.take_append_drop (i + 1) (l.take k)]
    rw [List.take_take, Nat.min_eq_left (by omega)]
  have h1 : rb l (i + 1) <+: rb l k := by
    unfold rb
    rw [e]
    generalize (l.take k).drop (i + 1) = r2
    generalize l.take (i + 1) = r1
    have : ∀ (r1 r2 : List Pt) (acc : List (Pt × Bool)), rbs l acc r1 <+: rbs l acc (r1 ++ r2) := by
      intro r1
      induction r1 with
      | nil => intro r2 acc; exact rbs_pre l r2 acc
      | cons a t ih => intro r2 acc; rw [List.cons_append, rbs, rbs]; exact ih r2 _
    exact this r1 r2 []
  obtain ⟨t, ht⟩ := h1
  rw [← ht, rb_step h, List.getElem?_append_left (by rw [List.length_append, rb_len (by omega)]; simp), List.getElem?_append_right (by rw [rb_len (by omega)]; omega), rb_len (by omega)]
  simp
theorem rbs_rdS (l : List Pt) (s : Int) : ∀ (r : List Pt) (acc : List (Pt × Bool)), (∀ t ∈ acc, t.2 = true → t.1.wr = false) →
    ((rbs l acc r).filter fun t => t.1.at' == s && t.2).map (·.1) = (acc.filter fun t => t.1.at' == s && t.2).map (·.1) ++ rdS l ((acc.filter fun t => t.1.at' == s && !t.1.wr && !t.2).map (·.1)) (wtP r s)
  | [], acc, _ => by simp [rbs, wtP, rdS]
  | p :: r, acc, ha => by
    rw [rbs, rbs_rdS l s r _ (fun t ht hb => by
      rcases List.mem_append.1 ht with ht | ht
      · exact ha t ht hb
      · rw [List.mem_singleton.1 ht] at hb ⊢
        unfold rbS at hb
        simp only [Bool.and_eq_true, Bool.not_eq_true'] at hb
        exact hb.1.1)]
    rw [List.filter_append, List.filter_append, List.map_append, List.map_append]
    by_cases hs : p.at' = s
    · cases hw : p.wr with
      | true =>
        have hb : rbS l acc p = false := by unfold rbS; rw [hw]; rfl
        have hW : wtP (p :: r) s = wtP r s := by unfold wtP; rw [List.filter_cons]; simp [inS, hw]
        rw [hW, hb]
        simp [hw]
      | false =>
        have hW : wtP (p :: r) s = p :: wtP r s := by unfold wtP; rw [List.filter_cons]; simp [inS, hw, hs]
        rw [hW, rdS]
        have hal : (acc.all fun t => t.1.wr || !meet t.1 p || t.2) = !(((acc.filter fun t => t.1.at' == s && !t.1.wr && !t.2).map (·.1)).any fun q => meet q p) := by
          rw [Bool.eq_iff_iff]
          simp only [List.all_eq_true, Bool.not_eq_true', List.any_eq_false, List.mem_map, List.mem_filter, Bool.or_eq_true, Bool.and_eq_true, beq_iff_eq]
          constructor
          · rintro h q ⟨t, ⟨h1, ⟨h2, h3⟩, h4⟩, rfl⟩ hm
            rcases h t h1 with (h5 | h5) | h5
            · rw [h3] at h5; cases h5
            · rw [hm] at h5; cases h5
            · rw [h4] at h5; cases h5
          · intro h t ht
            cases h3 : t.1.wr
            · cases h4 : t.2
              · cases h5 : meet t.1 p
                · simp
                · have hat : t.1.at' = s := by
                    unfold meet at h5
                    have := (Bool.and_eq_true_iff.1 h5).1
                    have e : t.1.at' = p.at' := by simpa using this
                    rw [e, hs]
                  exact absurd h5 (h t.1 ⟨t, ⟨ht, ⟨hat, h3⟩, h4⟩, rfl⟩)
              · simp
            · simp
        have hb : rbS l acc p = !(held l p || (((acc.filter fun t => t.1.at' == s && !t.1.wr && !t.2).map (·.1)).any fun q => meet q p)) := by
          unfold rbS; rw [hal, hw]; simp
        cases hc : (held l p || (((acc.filter fun t => t.1.at' == s && !t.1.wr && !t.2).map (·.1)).any fun q => meet q p)) with
        | true =>
          rw [hc] at hb
          rw [hb]
          simp [hw, hs]
        | false =>
          rw [hc] at hb
          rw [hb]
          simp [hw, hs]
    · have hW : wtP (p :: r) s = wtP r s := by unfold wtP; rw [List.filter_cons]; simp [inS, hs]
      rw [hW]
      simp [hs]
/-- Those of a sector that are ready are what rdy tells. -/
theorem rb_rdy (l : List Pt) (s : Int) : ids (((rb l l.length).filter fun t => t.1.at' == s && t.2).map (·.1)) = rdy l s := by
  unfold rb rdy
  rw [List.take_length, rbs_rdS l s l [] (fun t ht => by cases ht)]
  simp
end Go.Proofs.YtdfifneikmlmoaaGreat
