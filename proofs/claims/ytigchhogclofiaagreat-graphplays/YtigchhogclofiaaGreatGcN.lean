/-
  In a round of a range over a function: what was shown of plain operations holds there, too. No statement is proved here.
-/
import Derived.Test.YtigchhogclofiaaGreatGrY
namespace Go.Proofs.YtigchhogclofiaaGreat
open Go.ChangeShapes Go.WideShapes Go.ChangeAt Go.RowKit
set_option linter.unusedVariables false
set_option linter.unusedSimpArgs false

def plainOp (o : Oper) : Bool := match o.op with
  | .defer _ => false
  | _ => true
theorem plainOp_to {o : Oper} (h : plainOp o = true) : ∀ c, o.op ≠ .defer c := fun c e => by unfold plainOp at h; rw [e] at h; cases h
section
variable {P : Program} {ops : Array Oper} {Q : Exit → Act → World → Prop} {k n : Nat}
theorem rows_wide {row : String} {args : Array Value} {w : World} {R : Value → World → Prop} (h : Rows P row args w R) : RowsIn (Fence.wide.inRound k) n P row args w R :=
  fun c cs _ => let ⟨v, w', r, s⟩ := h c cs; ⟨v, w', r, stepsIn_wide.2 s⟩
theorem op_in {o : Oper} {a : Act} {w : World} {K K' : Act → World → Prop} (hd : ∀ c, o.op ≠ .defer c) (hK : ∀ a w, K a w → K' a w) (h : o.wp P a w K Q) : o.wpIn (Fence.wide.inRound k) n P a w K' Q := by
  refine ⟨fun _ _ => trivial, ?_⟩
  rw [Oper.semAt_eq _ _ _ hd]
  unfold Oper.wp at h
  generalize (execOp a.eval o).run P w = r at *
  cases r with
  | ok x w' =>
    cases x <;> simp only [Oper.upon, Oper.uponIn] at h ⊢
    case value v => exact hK _ _ h
    case skip => exact hK _ _ h
    case defer d => exact hK _ _ h
    case enter f args =>
      refine ⟨(fun e => by cases e), ?_⟩
      refine CallsIn.inRound k (callsIn_wide.2 (Calls.mono h ?_))
      intro e w'' he
      cases e <;> first | exact hK _ _ he | exact he
    case row row args => exact ⟨(fun e => by cases e), rows_wide (Rows.mono h (fun _ _ he => hK _ _ he))⟩
  | halt x w' => cases x <;> simp only [Oper.upon, Oper.uponIn] at h ⊢ <;> exact h
theorem list_in (hx : ¬ LetsOut Q) : ∀ (l : List Oper) (a : Act) (w : World), l.all plainOp = true → wpList P ops Q l a w → wpListIn (Fence.wide.inRound k) n P ops Q l a w
  | [], a, w, _, h => h
  | o :: r, a, w, hp, h => by
    rw [List.all_cons, Bool.and_eq_true] at hp
    unfold wpList at h
    unfold wpListIn
    split at h
    · rename_i hw
      rw [if_pos hw]
      rcases h with h | h
      · exact op_in (plainOp_to hp.1) (fun a w h => list_in hx r a w hp.2 h) h
      · exact absurd h.2 hx
    · rename_i hw
      rw [if_neg hw]
      exact ⟨fun _ _ => trivial, list_in hx r _ _ hp.2 h⟩
theorem any_in {md : Region.Mode} (hx : ¬ LetsOut Q) (hp : ops.toList.all plainOp = true) : ∀ (fuel : Nat) (listed : Array Bool) (a : Act) (w : World), wpAny P md ops Q fuel listed a w → wpAnyIn (Fence.wide.inRound k) n P md ops Q fuel listed a w
  | 0, listed, a, w, h => h
  | fuel + 1, listed, a, w, h => by
    refine ⟨h.1, fun i hi => ?_⟩
    have h1 := h.2 i hi
    unfold wpOp at h1
    unfold wpOpIn
    cases ho : ops[i]? with
    | none => simp only [ho] at h1; exact any_in hx hp fuel _ _ _ h1
    | some o =>
      have hm : plainOp o = true := List.all_eq_true.1 hp o (by
        rw [Array.mem_toList_iff]; exact Array.mem_of_getElem? ho)
      simp only [ho] at h1 ⊢
      split at h1
      · rename_i hw
        rw [if_pos hw]
        rcases h1 with h1 | h1
        · exact op_in (plainOp_to hm) (fun a w h => any_in hx hp fuel _ a w h) h1
        · exact absurd h1.2 hx
      · rename_i hw
        rw [if_neg hw]
        exact ⟨fun _ _ => trivial, any_in hx hp fuel _ _ _ h1⟩
/-- A region that draws, all but its last operation first. -/
theorem in_region_last {S : World → Prop} {id : Nat} {a : Act} {w : World} (ops0 : Array Oper) (o : Oper) (hx : ¬ LetsOut Q) (hp : ops.toList.all plainOp = true) (hpop : ops.pop = ops0) (hback : ops.back? = some o) (hm : P.follows .mixedOrders = true) (hok : lastOk ops0 o = true) (hS : S w.drew)
    (h : S w.drew → wpAnyH P .any ops0 (Rest P ops0 o Q) S ops0.size (Array.replicate ops0.size false) a w.drew) : (Code.region id ops true).wpIn (Fence.wide.inRound k) n P Q a w := by
  have hops : ops = ops0.push o := by
    subst hpop
    apply Array.ext_getElem?
    intro i
    rw [Array.back?_eq_getElem?] at hback
    have hlt := (Array.getElem?_eq_some_iff.1 hback).1
    rw [Array.getElem?_push, Array.size_pop, Array.getElem?_pop]
    by_cases e : i = ops.size - 1
    · rw [if_pos e, e, hback]
    · rw [if_neg e]
      split
      · rfl
      · exact Array.getElem?_eq_none (by omega)
  subst hops
  refine wpIn_region_any hm ?_
  have := wpAny_last (P := P) (Q := Q) hok ops0.size (Array.replicate ops0.size false) a w.drew (by simp) (fun i x hx hl => by
    have := (Array.getElem?_eq_some_iff.1 hx).1
    simp [Array.getD, this] at hl) (wpAny_of_held _ _ _ _ (h hS))
  rw [Array.size_push, Array.replicate_succ]
  exact any_in hx hp _ _ _ _ this
end
end Go.Proofs.YtigchhogclofiaaGreat
