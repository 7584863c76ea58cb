/-
  What the document's Lay of layer 15 returns of a patch that is refused: no statement is proved here.
-/
import Derived.Test.YteceapdkgidenaaRoD
namespace Go.Proofs.Yteceapdkgidenaa
open Go.ChangeShapes Go.WideShapes Go.ChangeAt Go.RowKit
set_option linter.unusedVariables false
set_option linter.unusedSimpArgs false

/-- The goal's operation is a load without a guard: asked ahead of a law at it, where guards say no. -/
theorem is_load {P : Program} {ops : Array Oper} {rest : List Oper} {d : Option Tmp} {T ty : TypeId} {x : Operand} {ps : String} {af : Array Edge} {a : Act} {w : World} {Q : Exit → Act → World → Prop} (h : wpList P ops Q (Oper.mk d (.load T x) ty ps af none :: rest) a w) : wpList P ops Q (Oper.mk d (.load T x) ty ps af none :: rest) a w := h
theorem is_loadT {P : Program} {ops : Array Oper} {rest : List Oper} {o : Oper} {a : Act} {w : World} {T : TypeId} {x : Operand} {Q : Exit → Act → World → Prop} (h : wpList P ops Q (o :: rest) a w) (ho : o.op = .load T x := by rfl) : wpList P ops Q (o :: rest) a w := h
/-- The walk stands here. -/
theorem halt_here {p : Prop} (h : True → p) : p := h trivial
/-- Why it is refused. -/
theorem rfit_no {p : Pt} (h : rfit p = false) : p.kind < 0 ∨ (¬ p.kind < 0 ∧ 6 < p.kind) ∨ (¬ p.kind < 0 ∧ ¬ 6 < p.kind ∧ room p < (p.data.length : Int)) ∨ (¬ p.kind < 0 ∧ ¬ 6 < p.kind ∧ ¬ room p < (p.data.length : Int) ∧ p.off < 0) ∨ (¬ p.kind < 0 ∧ ¬ 6 < p.kind ∧ ¬ room p < (p.data.length : Int) ∧ ¬ p.off < 0 ∧ room p - (p.data.length : Int) < p.off) := by
  unfold rfit at h
  by_cases h1 : p.kind < 0
  · exact .inl h1
  by_cases h2 : 6 < p.kind
  · exact .inr (.inl ⟨h1, h2⟩)
  by_cases h3 : room p < (p.data.length : Int)
  · exact .inr (.inr (.inl ⟨h1, h2, h3⟩))
  by_cases h4 : p.off < 0
  · exact .inr (.inr (.inr (.inl ⟨h1, h2, h3, h4⟩)))
  by_cases h5 : room p - (p.data.length : Int) < p.off
  · exact .inr (.inr (.inr (.inr ⟨h1, h2, h3, h4, h5⟩)))
  · rw [decide_eq_true (by omega), decide_eq_true (by omega), decide_eq_true (by omega), decide_eq_true (by omega)] at h
    cases h
set_option maxRecDepth 100000 in
set_option maxHeartbeats 4000000 in
theorem rrlay_no {w : World} (b : Blk) (p : Pt) (d n : Sv) (t : Nat) (hp : p.wfp) (hd : BsS w d p.data) (hf : rfit p = false) :
    Calls Try.prog 10 #[.agg b.cs.toArray, .agg (p.cs d n).toArray, .int .u32 (t : Int)] w fun e w' => e = .returned (.tuple #[.agg (lyB b p t).cs.toArray, .int .i64 (lyE p)]) ∧ Below w.heap.size w w' := by
  have hE : lyB b p t = b ∧ lyE p = 2 := by unfold lyB lyE; rw [hf]; exact ⟨rfl, rfl⟩
  rw [hE.1, hE.2]
  have hb := b.len
  have hno := rfit_no hf
  have hdn := hd.len
  rw [hdn] at hno
  have hl2 : (d.n : Int) ≤ 9223372036854775807 := by have := hd.le; have := hd.cap; unfold maxLen at this; omega
  have ho2 := wfi_to hp.o
  clear hE hf hdn
  have key : ∀ (k0 : Int), p.kind = k0 → ∀ M : Int, M = room p → (k0 = 0 ∧ M = 64 ∨ ¬ k0 = 0 ∧ M = 54) := fun k0 e M e2 => by
    subst e; subst e2; unfold room
    by_cases h : p.kind = 0
    · rw [if_pos h]; exact .inl ⟨h, rfl⟩
    · rw [if_neg h]; exact .inr ⟨h, rfl⟩
  have hkM := key p.kind rfl (room p) rfl
  generalize room p = M at *
  clear key
  have hP : ∀ (u : World) (g : Nat), Cs u g (p.cs d n) → _ := fun u g h => Pt.cells h
  obtain ⟨kk, hkk⟩ : ∃ kk, p.kind = kk := ⟨_, rfl⟩
  rw [hkk] at hno hkM
  have hkk' : Hid (p.kind = kk) := hkk
  clear hkk
  have hw64 : ∀ x : Int, 0 ≤ x → x ≤ 9223372036854775807 → IntKind.i64.wrap (64 - x) = 64 - x := fun x h1 h2 => by rw [IntKind.wrap_i64]; omega
  have hw54 : ∀ x : Int, 0 ≤ x → x ≤ 9223372036854775807 → IntKind.i64.wrap (54 - x) = 54 - x := fun x h1 h2 => by rw [IntKind.wrap_i64]; omega
  have q64 := hw64 d.n (by omega) hl2
  have q54 := hw54 d.n (by omega) hl2
  clear hw64 hw54
  rcases hkM with ⟨hk0, hM⟩ | ⟨hk0, hM⟩
  all_goals subst hM
  all_goals rcases hno with h1 | ⟨h1, h2⟩ | ⟨h1, h2, h3⟩ | ⟨h1, h2, h3, h4⟩ | ⟨h1, h2, h3, h4, h5⟩
  all_goals try (exfalso; omega)
  all_goals try subst hk0
  all_goals
    have t1 : True := trivial
    have t2 : True := trivial
    have t3 : True := trivial
    go_enter Try.func10, Try.ntmps10
    go_wp2_with (first
      | (clear t1; refine at_box 23 64 arrB (by rfl) _ (by rfl) b.l (by rfl) hb ?_; intro gb w1 a1 z1 r1 b1)
      | (clear t2; refine at_boxP (by rfl) _ (by rfl) p d n (by rfl) ?_; intro g2 w2 a2 z2 r2 b2)
      | (clear t3; refine at_new 23 64 arrB (by rfl) (by rfl) ?_; intro gr w3 a3 z3 r3 b3
         have B3 := bnext (bnext b1 b2 (Nat.le_refl _)) b3 (Nat.le_refl _)
         have x3 := (r1.later b2).later b3
         obtain ⟨c0, c1, c2, c3, c4, c5, c6, c7, c8⟩ := hP _ _ (r2.later b3)
         rw [hkk'.out] at c4
         clear c0 c1 c5 c6 c7 c8 hP)
      | (with_reducible refine is_load ?_; refine is_loadT (T := 23) ?_; refine halt_here ?_))
    intro _
    refine at_get 23 64 arrB (by rfl) _ (by rfl) gb (by rfl) _ x3 hb ?_
    go_wp2_with (first
      | (refine at_put 23 64 arrB (by rfl) _ _ (by rfl) gr (by rfl) b.l (by rfl) hb _ r3 (by simp) ?_; intro w9 r9 s9))
    have S4 : Stp (fun x => w.heap.size ≤ x) w w3 := Stp.of_below B3 _
    have hgr : w.heap.size ≤ gr := by have := b1.size; have := b2.size; omega
    exact bodyPost_ret (retAt arrB Try.results10 rfl rfl r9 hb) rfl ⟨rfl, (S4.next s9 (fun x hx => .inl (by subst hx; exact hgr))).below (Nat.le_refl _) (fun _ h => h)⟩
end Go.Proofs.Yteceapdkgidenaa
