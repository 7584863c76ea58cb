/-
  Plain words of my own: in a region that draws its order, an operation that waits for all others may be left to the end: no statement is proved here.
-/
import Derived.Test.YtddglkejegmmmaaPlain5
import Derived.OrdersHeld
import Derived.Deep.RegionHeld
namespace Go.Proofs.Ytddglkejegmmmaa
set_option linter.unusedVariables false

/-- Does operation i wait for j, over so many steps? -/
def reach (ops : Array Oper) : Nat → Nat → Nat → Bool
  | 0, _, _ => false
  | n + 1, i, j => i == j || (match ops[i]? with | some o => o.after.any fun e => Region.binds .any e && reach ops n e.on j | none => false)
/-- Each waits for earlier ones alone; the last one waits for all; no guard names the last one. -/
def lastOk (ops : Array Oper) (o : Oper) : Bool :=
  ((List.range ops.size).all fun i => match ops[i]? with | some x => (x.after.all fun e => decide (e.on < i)) && (match x.guard with | none => true | some (j, _) => decide (j < ops.size)) | none => false)
  && (o.after.all fun e => decide (e.on < ops.size)) && ((List.range ops.size).all fun j => o.after.any fun e => Region.binds .any e && reach ops ops.size e.on j)

section
variable {P : Program} {ops : Array Oper} {o : Oper} {Q : Exit → Act → World → Prop}
/-- What is owed behind all but the last one. -/
def Rest (P : Program) (ops : Array Oper) (o : Oper) (Q : Exit → Act → World → Prop) : Exit → Act → World → Prop
  | .normal, a, w => wpList P (ops.push o) Q [o] a w
  | e, a, w => Q e a w
def Shut (ops : Array Oper) (L : Array Bool) : Prop := ∀ i x, ops[i]? = some x → L.getD i false = true → ∀ e ∈ x.after, Region.binds .any e = true → L.getD e.on false = true
theorem shut_reach {L : Array Bool} (h : Shut ops L) : ∀ (n i j : Nat), reach ops n i j = true → L.getD i false = true → L.getD j false = true
  | 0, _, _, h1, _ => by simp [reach] at h1
  | n + 1, i, j, h1, h2 => by
    unfold reach at h1
    rcases Bool.or_eq_true_iff.1 h1 with e | e
    · have : i = j := by simpa using e
      subst this; exact h2
    · cases hx : ops[i]? with
      | none => rw [hx] at e; cases e
      | some x =>
        rw [hx] at e
        simp only [Array.any_eq_true] at e
        obtain ⟨k, hk, e⟩ := e
        obtain ⟨e1, e2⟩ := Bool.and_eq_true_iff.1 e
        exact shut_reach h n _ j e2 (h i x hx h2 _ (Array.getElem_mem hk) e1)
theorem mem_ready {ops : Array Oper} {L : Array Bool} {i : Nat} : i ∈ Region.ready .any ops L ↔ ∃ x, ops[i]? = some x ∧ L.getD i true = false ∧ ∀ e ∈ x.after, Region.binds .any e = true → L.getD e.on false = true := by
  unfold Region.ready
  rw [List.mem_filter, List.mem_range]
  constructor
  · rintro ⟨hi, h⟩
    obtain ⟨h1, h2⟩ := Bool.and_eq_true_iff.1 h
    rw [Array.getElem?_eq_getElem hi] at h2
    refine ⟨ops[i], Array.getElem?_eq_getElem hi, by simpa using h1, fun e he hb => ?_⟩
    simp only [Option.map_some, Option.getD_some, Array.all_eq_true_iff_forall_mem] at h2
    have := h2 e he
    rw [hb] at this; simpa using this
  · rintro ⟨x, hx, h1, h2⟩
    refine ⟨(Array.getElem?_eq_some_iff.1 hx).1, Bool.and_eq_true_iff.2 ⟨by rw [h1]; rfl, ?_⟩⟩
    rw [hx]
    simp only [Option.map_some, Option.getD_some, Array.all_eq_true_iff_forall_mem]
    intro e he
    cases hb : Region.binds .any e
    · simp
    · rw [h2 e he hb]; simp
theorem wpOp_last {i : Nat} {a : Act} {w : World} {K K' : Act → World → Prop} (hi : i < ops.size) (hg : ∀ x, ops[i]? = some x → ∀ j b, x.guard = some (j, b) → j < ops.size) (hK : ∀ a w, K a w → K' a w) (h : wpOp P ops (Rest P ops o Q) i K a w) : wpOp P (ops.push o) Q i K' a w := by
  have hx : ops[i]? = some ops[i] := Array.getElem?_eq_getElem hi
  have hp : (ops.push o)[i]? = some ops[i] := by rw [Array.getElem?_push, if_neg (by omega), hx]
  unfold wpOp at h ⊢
  rw [hx] at h; rw [hp]
  simp only at h ⊢
  have hy : Region.wanted ops[i] (yielded (ops.push o) a.tmps) = Region.wanted ops[i] (yielded ops a.tmps) := by
    unfold Region.wanted
    cases hgd : ops[i].guard with
    | none => rfl
    | some jb =>
      obtain ⟨j, b⟩ := jb
      have hj := hg _ hx j b hgd
      simp only
      unfold yielded
      rw [Array.getElem?_push, if_neg (by omega)]
  rw [hy]
  split at h
  · rename_i hw
    rw [if_pos hw]
    rcases h with h | ⟨h1, a', w', h2⟩
    · left
      refine Oper.wp_mono hK ?_
      unfold Oper.wp at h ⊢
      generalize (execOp a.eval ops[i]).run P w = r at h ⊢
      cases r with
      | ok n w' =>
        cases n <;> simp only [Oper.upon] at h ⊢ <;> first
          | exact h
          | exact Calls.mono h (fun e w'' he => by
              cases e with
              | returned v => exact he
              | panicked c => exact he
              | outgrown => obtain ⟨a', w', h2⟩ := he; exact ⟨a', w', h2⟩)
      | halt x w' => cases x <;> simp only [Oper.upon] at h ⊢ <;> exact h
    · exact .inr ⟨h1, a', w', h2⟩
  · rename_i hw; rw [if_neg hw]; exact hK _ _ h
theorem wpAny_last (hok : lastOk ops o = true) : ∀ (n : Nat) (L : Array Bool) (a : Act) (w : World), L.size = ops.size → Shut ops L → wpAny P .any ops (Rest P ops o Q) n L a w → wpAny P .any (ops.push o) Q (n + 1) (L.push false) a w := by
  obtain ⟨h12, h3⟩ := Bool.and_eq_true_iff.1 hok
  obtain ⟨h1, h2⟩ := Bool.and_eq_true_iff.1 h12
  have E : ∀ (i : Nat) (x : Oper), ops[i]? = some x → (∀ e ∈ x.after, e.on < i) ∧ ∀ j b, x.guard = some (j, b) → j < ops.size := fun i x hx => by
    have := List.all_eq_true.1 h1 i (List.mem_range.2 (Array.getElem?_eq_some_iff.1 hx).1)
    rw [hx] at this
    obtain ⟨t1, t2⟩ := Bool.and_eq_true_iff.1 this
    refine ⟨fun e he => by simpa using Array.all_eq_true_iff_forall_mem.1 t1 e he, fun j b hg => by rw [hg] at t2; simpa using t2⟩
  have E2 : ∀ e ∈ o.after, e.on < ops.size := fun e he => by simpa using Array.all_eq_true_iff_forall_mem.1 h2 e he
  -- nothing is ready: all are listed
  have allIn : ∀ L : Array Bool, L.size = ops.size → Region.ready .any ops L = [] → ∀ j, j < ops.size → L.getD j false = true := fun L hL hr j => by
    induction j using Nat.strongRecOn with
    | _ j ih =>
      intro hj
      refine Decidable.byContradiction fun hn => ?_
      have : j ∈ Region.ready .any ops L := mem_ready.2 ⟨ops[j], Array.getElem?_eq_getElem hj, by
        have hlt : j < L.size := by omega
        simp [Array.getD, hlt] at hn ⊢; exact hn, fun e he _ => ih e.on ((E j _ (Array.getElem?_eq_getElem hj)).1 e he) (by have := (E j _ (Array.getElem?_eq_getElem hj)).1 e he; omega)⟩
      rw [hr] at this; cases this
  have getP : ∀ (L : Array Bool) (j : Nat) (d : Bool), j < L.size → (L.push false).getD j d = L.getD j d := fun L j d hj => by
    simp [Array.getD, hj, Array.getElem_push, show j < L.size + 1 by omega]
  -- who is ready
  have rdy : ∀ (L : Array Bool) (i : Nat), L.size = ops.size → i ∈ Region.ready .any (ops.push o) (L.push false) → i ∈ Region.ready .any ops L ∨ (i = ops.size ∧ ∀ e ∈ o.after, Region.binds .any e = true → L.getD e.on false = true) := fun L i hL hi => by
    obtain ⟨x, hx, hl, he⟩ := mem_ready.1 hi
    rw [Array.getElem?_push] at hx
    split at hx
    · rename_i e
      injection hx with hx; subst hx
      exact .inr ⟨e, fun e' he' hb => by have := he e' he' hb; rw [getP L _ _ (by rw [hL]; exact E2 e' he')] at this; exact this⟩
    · have hlt := (Array.getElem?_eq_some_iff.1 hx).1
      refine .inl (mem_ready.2 ⟨x, hx, by rw [getP L i true (by omega)] at hl; exact hl, fun e' he' hb => ?_⟩)
      have := he e' he' hb
      rw [getP L _ _ (by have := (E i x hx).1 e' he'; omega)] at this; exact this
  have setP : ∀ (L : Array Bool) (i : Nat), i < L.size → (L.push false).setIfInBounds i true = (L.setIfInBounds i true).push false := fun L i hi => by
    apply Array.ext_getElem?
    intro k
    simp only [Array.getElem?_setIfInBounds, Array.getElem?_push, Array.size_push, Array.size_setIfInBounds]
    by_cases e : i = k
    · subst e; simp [hi, show i ≠ L.size by omega, show i < L.size + 1 by omega]
    · simp [e]
  -- the end
  have fin : ∀ (n : Nat) (L : Array Bool) (a : Act) (w : World), L.size = ops.size → (∀ j, j < ops.size → L.getD j false = true) → Rest P ops o Q .normal a w → wpAny P .any (ops.push o) Q (n + 1) (L.push false) a w := fun n L a w hL hall h => by
    have hN : ops.size ∈ Region.ready .any (ops.push o) (L.push false) := mem_ready.2 ⟨o, by simp, by rw [show ops.size = L.size from hL.symm]; simp [Array.getD], fun e he _ => by rw [getP L _ _ (by rw [hL]; exact E2 e he)]; exact hall _ (E2 e he)⟩
    have no : Region.ready .any ops L = [] := by
      refine List.eq_nil_iff_forall_not_mem.2 fun i hi => ?_
      obtain ⟨x, hx, hl, _⟩ := mem_ready.1 hi
      have hlt := (Array.getElem?_eq_some_iff.1 hx).1
      have := hall i hlt
      simp [Array.getD, show i < L.size by omega] at this hl
      rw [this] at hl; cases hl
    refine ⟨(fun e => by rw [e] at hN; cases hN), fun i hi => ?_⟩
    rcases rdy L i hL hi with e | ⟨rfl, _⟩
    · rw [no] at e; cases e
    · have last : Region.ready .any (ops.push o) ((L.push false).setIfInBounds ops.size true) = [] := by
        refine List.eq_nil_iff_forall_not_mem.2 fun k hk => ?_
        obtain ⟨x, hx, hl, _⟩ := mem_ready.1 hk
        have hlt := (Array.getElem?_eq_some_iff.1 hx).1
        simp at hlt
        by_cases e : k = ops.size
        · subst e; simp [Array.getD, hL] at hl
        · have h3 := hall k (by omega)
          simp [Array.getD, show k < L.size by omega, show k < L.size + 1 by omega, Array.getElem_push, show ¬ ops.size = k by omega] at h3 hl
          rw [h3] at hl; cases hl
      have hh : wpList P (ops.push o) Q [o] a w := h
      unfold wpOp
      rw [show (ops.push o)[ops.size]? = some o by simp]
      simp only
      have go : ∀ a w, Q .normal a w → wpAny P .any (ops.push o) Q n ((L.push false).setIfInBounds ops.size true) a w := fun a w hq => by
        cases n with
        | zero => exact ⟨last, hq⟩
        | succ n => exact ⟨fun _ => hq, (fun i hi => by rw [last] at hi; cases hi)⟩
      simp only [wpList] at hh
      split at hh
      · rename_i hw; rw [if_pos hw]; exact hh.imp (Oper.wp_mono go) id
      · rename_i hw; rw [if_neg hw]; exact go _ _ hh
  intro n
  induction n with
  | zero =>
    intro L a w hL hS h
    exact fin 0 L a w hL (allIn L hL h.1) h.2
  | succ n ih =>
    intro L a w hL hS h
    by_cases hr : Region.ready .any ops L = []
    · exact fin (n + 1) L a w hL (allIn L hL hr) (h.1 hr)
    · have notN : ¬ ∀ e ∈ o.after, Region.binds .any e = true → L.getD e.on false = true := fun hall => by
        obtain ⟨i, hi⟩ := List.exists_mem_of_ne_nil _ hr
        obtain ⟨x, hx, hl, _⟩ := mem_ready.1 hi
        have hlt := (Array.getElem?_eq_some_iff.1 hx).1
        have := List.all_eq_true.1 h3 i (List.mem_range.2 hlt)
        simp only [Array.any_eq_true] at this
        obtain ⟨k, hk, e⟩ := this
        obtain ⟨e1, e2⟩ := Bool.and_eq_true_iff.1 e
        have := shut_reach hS _ _ i e2 (hall _ (Array.getElem_mem hk) e1)
        simp [Array.getD, show i < L.size by omega] at this hl
        rw [this] at hl; cases hl
      refine ⟨fun e => ?_, fun i hi => ?_⟩
      · obtain ⟨i, hi⟩ := List.exists_mem_of_ne_nil _ hr
        obtain ⟨x, hx, hl, he⟩ := mem_ready.1 hi
        have hlt := (Array.getElem?_eq_some_iff.1 hx).1
        have : i ∈ Region.ready .any (ops.push o) (L.push false) := mem_ready.2 ⟨x, by rw [Array.getElem?_push, if_neg (by omega)]; exact hx, by rw [getP L i true (by omega)]; exact hl, fun e' he' hb => by rw [getP L _ _ (by have := (E i x hx).1 e' he'; omega)]; exact he e' he' hb⟩
        rw [e] at this; cases this
      · rcases rdy L i hL hi with hi0 | ⟨_, hall⟩
        · obtain ⟨x, hx, hl, he⟩ := mem_ready.1 hi0
          have hlt := (Array.getElem?_eq_some_iff.1 hx).1
          rw [setP L i (by omega)]
          refine wpOp_last hlt (fun y hy => (E i y hy).2) (fun a w hq => ih _ a w (by simp [hL]) ?_ hq) (h.2 i hi0)
          intro j y hy hj e' he' hb
          have hjl := (Array.getElem?_eq_some_iff.1 hy).1
          have hel := (E j y hy).1 e' he'
          by_cases ej : i = j
          · subst ej
            rw [hx] at hy; injection hy with hy; subst hy
            have := he e' he' hb
            simp [Array.getD, show e'.on < L.size by omega, show ¬ i = e'.on by omega] at this ⊢; exact this
          · have hj' : L.getD j false = true := by simpa [Array.getD, show j < L.size by omega, Array.getElem_setIfInBounds, ej] using hj
            have := hS j y hy hj' e' he' hb
            by_cases e2 : i = e'.on
            · rw [← e2]; simp [Array.getD, show i < L.size by omega]
            · simp [Array.getD, show e'.on < L.size by omega, e2] at this ⊢; exact this
        · exact (notN hall).elim
/-- THE REGION: all but the last one under S, then the last one. -/
theorem wp_region_last {S : World → Prop} {id : Nat} {a : Act} {w : World} (ops0 : Array Oper) (o : Oper) (hpop : ops.pop = ops0) (hback : ops.back? = some o) (hm : P.follows .mixedOrders = true) (hok : lastOk ops0 o = true) (hS : S w.drew)
    (h : S w.drew → wpAnyH P .any ops0 (Rest P ops0 o Q) S ops0.size (Array.replicate ops0.size false) a w.drew) : (Code.region id ops true).wp P Q a w := by
  have hops : ops = ops0.push o := by
    subst hpop
    apply Array.ext_getElem?
    intro i
    rw [Array.back?_eq_getElem?] at hback
    have hlt := (Array.getElem?_eq_some_iff.1 hback).1
    rw [Array.getElem?_push, Array.size_pop, Array.getElem?_pop]
    by_cases e : i = ops.size - 1
    · rw [if_pos e, e, hback]
    · rw [if_neg e]
      split
      · rfl
      · exact Array.getElem?_eq_none (by omega)
  subst hops
  refine wp_region_any hm ?_
  have := wpAny_last (P := P) (Q := Q) hok ops0.size (Array.replicate ops0.size false) a w.drew (by simp) (fun i x hx hl => by
    have := (Array.getElem?_eq_some_iff.1 hx).1
    simp [Array.getD, this] at hl) (wpAny_of_held _ _ _ _ (h hS))
  rw [Array.size_push, Array.replicate_succ]
  exact this
end
end Go.Proofs.Ytddglkejegmmmaa
