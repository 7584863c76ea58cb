/-
  What Check of layer 10, and the document's, return, for every inode: no statement is proved here.
-/
import Derived.Test.YtbpnegklglaekaaDoorInoB
namespace Go.Proofs.YtbpnegklglaekaaDoor
open Go.ChangeShapes Go.WideShapes Go.ChangeAt Go.RowKit
set_option linter.unusedVariables false

theorem iE_of (x : Ino) : iE x = if x.mayB = true then 0 else 2 := by
  unfold iE
  by_cases h : x.may
  · rw [if_pos h, if_pos (show x.mayB = true from decide_eq_true h)]
  · rw [if_neg h, if_neg (by rw [show x.mayB = false from decide_eq_false h]; simp)]
set_option maxRecDepth 100000 in
theorem icheck_any (x : Ino) (w : World) : Calls Tryd.prog 9 #[.agg x.cs.toArray] w fun e w' => e = .returned (.int .i64 (iE x)) ∧ Below w.heap.size w w' := by
  have hm := mayBe_any x
  rw [iE_of]
  generalize x.mayB = m at *
  cases m
  all_goals
    simp only [Bool.false_eq_true, if_true, if_false]
    go_enter Tryd.func9, Tryd.ntmps9
    go_wp2_with (first
      | (refine at_boxI (by rfl) _ (by rfl) x (by rfl) ?_; intro g1 w1 a1 z1 r1 b1)
      | (refine at_getI (by rfl) _ (by rfl) g1 (by rfl) x r1 ?_)
      | (go_at_call 26; refine (hm _).mono ?_; rintro e w2 ⟨rfl, b2⟩))
    go_returns
    exact ⟨rfl, bnext b1 b2 (Nat.le_refl _)⟩
theorem rchk_ways (x : Ino) : ((x.k.toNat : Int) = 0 ∧ x.sameB Ino.zero = true ∧ iE x = 0) ∨ ((x.k.toNat : Int) = 0 ∧ x.sameB Ino.zero = false ∧ iE x = 2) ∨
    (¬ (x.k.toNat : Int) = 0 ∧ (x.k.toNat : Int) > 2 ∧ iE x = 2) ∨ (¬ (x.k.toNat : Int) = 0 ∧ ¬ (x.k.toNat : Int) > 2 ∧ (x.n.toNat : Int) > 200 ∧ iE x = 2) ∨
    (¬ (x.k.toNat : Int) = 0 ∧ ¬ (x.k.toNat : Int) > 2 ∧ ¬ (x.n.toNat : Int) > 200 ∧ (x.s.toNat : Int) > 48640 ∧ iE x = 2) ∨
    ((x.k.toNat : Int) = 2 ∧ ¬ (x.n.toNat : Int) > 200 ∧ ¬ (x.s.toNat : Int) > 48640 ∧ ¬ (x.s.toNat : Int) % 64 = 0 ∧ iE x = 2) ∨
    ((x.k.toNat : Int) = 2 ∧ ¬ (x.n.toNat : Int) > 200 ∧ ¬ (x.s.toNat : Int) > 48640 ∧ (x.s.toNat : Int) % 64 = 0 ∧ iE x = 0) ∨
    ((x.k.toNat : Int) = 1 ∧ ¬ (x.n.toNat : Int) > 200 ∧ ¬ (x.s.toNat : Int) > 48640 ∧ iE x = 0) := by
  have hs : x.sameB Ino.zero = decide x.nil := rfl
  rw [hs]
  unfold iE
  by_cases h0 : x.k.toNat = 0
  · by_cases hn : x.nil
    · exact .inl ⟨by omega, decide_eq_true hn, if_pos (.inl ⟨h0, hn⟩)⟩
    · refine .inr (.inl ⟨by omega, decide_eq_false hn, if_neg ?_⟩)
      rintro (⟨_, h⟩ | ⟨h, _⟩ | ⟨h, _⟩)
      · exact hn h
      · omega
      · omega
  · refine .inr (.inr ?_)
    by_cases h2 : x.k.toNat > 2
    · refine .inl ⟨by omega, by omega, if_neg ?_⟩
      rintro (⟨h, _⟩ | ⟨h, _⟩ | ⟨h, _⟩) <;> omega
    · refine .inr ?_
      by_cases h3 : x.n.toNat > 200
      · refine .inl ⟨by omega, by omega, by omega, if_neg ?_⟩
        rintro (⟨h, _⟩ | ⟨_, h, _⟩ | ⟨_, h, _⟩) <;> omega
      · refine .inr ?_
        by_cases h4 : x.s.toNat > 48640
        · refine .inl ⟨by omega, by omega, by omega, by omega, if_neg ?_⟩
          rintro (⟨h, _⟩ | ⟨_, _, h⟩ | ⟨_, _, h, _⟩) <;> omega
        · refine .inr ?_
          by_cases h1 : x.k.toNat = 1
          · exact .inr (.inr ⟨by omega, by omega, by omega, if_pos (.inr (.inl ⟨h1, by omega, by omega⟩))⟩)
          · by_cases h5 : x.s.toNat % 64 = 0
            · exact .inr (.inl ⟨by omega, by omega, by omega, by omega, if_pos (.inr (.inr ⟨by omega, by omega, by omega, h5⟩))⟩)
            · refine .inl ⟨by omega, by omega, by omega, by omega, if_neg ?_⟩
              rintro (⟨h, _⟩ | ⟨h, _⟩ | ⟨_, _, _, h⟩) <;> omega
set_option maxRecDepth 100000 in
set_option maxHeartbeats 1000000 in
theorem richeck_any (x : Ino) (w : World) : Calls Tryd.prog 10 #[.agg x.cs.toArray] w fun e w' => e = .returned (.int .i64 (iE x)) ∧ Below w.heap.size w w' := by
  rcases rchk_ways x with hw | hw | ⟨h0, h1, hE⟩ | ⟨h0, h1, h2, hE⟩ | ⟨h0, h1, h2, h3, hE⟩ | ⟨h0, h1, h2, h3, hE⟩ | ⟨h0, h1, h2, h3, hE⟩ | ⟨h0, h1, h2, hE⟩
  · obtain ⟨h0, h1, hE⟩ := hw
    have heq := eqI x Ino.zero
    have hg := guardI
    rw [hE]
    go_enter Tryd.func10, Tryd.ntmps10
    go_wp2_with (first
      | (refine at_boxI (by rfl) _ (by rfl) x (by rfl) ?_; intro g1 w1 a1 z1 r1 b1; obtain ⟨y0, y1, y2⟩ := r1.ino)
      | (refine at_getI (by rfl) _ (by rfl) g1 (by rfl) x r1 ?_)
      | (refine at_bld0 (by rfl) (by rfl) ?_))
    go_returns
    exact ⟨rfl, b1⟩
  · obtain ⟨h0, h1, hE⟩ := hw
    have heq := eqI x Ino.zero
    have hg := guardI
    rw [hE]
    go_enter Tryd.func10, Tryd.ntmps10
    go_wp2_with (first
      | (refine at_boxI (by rfl) _ (by rfl) x (by rfl) ?_; intro g1 w1 a1 z1 r1 b1; obtain ⟨y0, y1, y2⟩ := r1.ino)
      | (refine at_getI (by rfl) _ (by rfl) g1 (by rfl) x r1 ?_)
      | (refine at_bld0 (by rfl) (by rfl) ?_))
    go_returns
    exact ⟨rfl, b1⟩
  all_goals
    rw [hE]
    clear hE
    have tok : True := trivial
    go_enter Tryd.func10, Tryd.ntmps10
    go_wp2_with (have _t := tok; refine at_boxI (by rfl) _ (by rfl) x (by rfl) ?_; intro g1 w1 a1 z1 r1 b1; obtain ⟨y0, y1, y2⟩ := r1.ino; clear _t tok r1)
    go_returns
    exact ⟨rfl, b1⟩
end Go.Proofs.YtbpnegklglaekaaDoor
