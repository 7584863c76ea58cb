/-
  What Add of the document's graph returns and leaves: no statement is proved here.
-/
import Derived.Test.YtdfifneikmlmoaaPlC
import Derived.Great.BuildSlice
import Derived.Deep.DeepCutAuto
import Derived.Shelf.SlMaps.Clone
import Derived.Test.YtdfifneikmlmoaaSmA
import Derived.Test.YtdfifneikmlmoaaRgI
namespace Go.Proofs.Ytdfifneikmlmoaa
open Go.ChangeShapes Go.WideShapes Go.ChangeAt Go.RowKit
set_option linter.unusedVariables false
set_option linter.unusedSimpArgs false

def plainOp (o : Oper) : Bool := match o.op with
  | .defer _ => false
  | _ => true
theorem plainOp_to {o : Oper} (h : plainOp o = true) : ∀ c, o.op ≠ .defer c := fun c e => by unfold plainOp at h; rw [e] at h; cases h
section
variable {P : Program} {ops : Array Oper} {Q : Exit → Act → World → Prop} {k n : Nat}
theorem rows_wide {row : String} {args : Array Value} {w : World} {R : Value → World → Prop} (h : Rows P row args w R) : RowsIn (Fence.wide.inRound k) n P row args w R :=
  fun c cs _ => let ⟨v, w', r, s⟩ := h c cs; ⟨v, w', r, stepsIn_wide.2 s⟩
theorem op_in {o : Oper} {a : Act} {w : World} {K K' : Act → World → Prop} (hd : ∀ c, o.op ≠ .defer c) (hK : ∀ a w, K a w → K' a w) (h : o.wp P a w K Q) : o.wpIn (Fence.wide.inRound k) n P a w K' Q := by
  refine ⟨fun _ _ => trivial, ?_⟩
  rw [Oper.semAt_eq _ _ _ hd]
  unfold Oper.wp at h
  generalize (execOp a.eval o).run P w = r at *
  cases r with
  | ok x w' =>
    cases x <;> simp only [Oper.upon, Oper.uponIn] at h ⊢
    case value v => exact hK _ _ h
    case skip => exact hK _ _ h
    case defer d => exact hK _ _ h
    case enter f args =>
      refine ⟨(fun e => by cases e), ?_⟩
      refine CallsIn.inRound k (callsIn_wide.2 (Calls.mono h ?_))
      intro e w'' he
      cases e <;> first | exact hK _ _ he | exact he
    case row row args => exact ⟨(fun e => by cases e), rows_wide (Rows.mono h (fun _ _ he => hK _ _ he))⟩
  | halt x w' => cases x <;> simp only [Oper.upon, Oper.uponIn] at h ⊢ <;> exact h
theorem list_in (hx : ¬ LetsOut Q) : ∀ (l : List Oper) (a : Act) (w : World), l.all plainOp = true → wpList P ops Q l a w → wpListIn (Fence.wide.inRound k) n P ops Q l a w
  | [], a, w, _, h => h
  | o :: r, a, w, hp, h => by
    rw [List.all_cons, Bool.and_eq_true] at hp
    unfold wpList at h
    unfold wpListIn
    split at h
    · rename_i hw
      rw [if_pos hw]
      rcases h with h | h
      · exact op_in (plainOp_to hp.1) (fun a w h => list_in hx r a w hp.2 h) h
      · exact absurd h.2 hx
    · rename_i hw
      rw [if_neg hw]
      exact ⟨fun _ _ => trivial, list_in hx r _ _ hp.2 h⟩
theorem any_in {md : Region.Mode} (hx : ¬ LetsOut Q) (hp : ops.toList.all plainOp = true) : ∀ (fuel : Nat) (listed : Array Bool) (a : Act) (w : World), wpAny P md ops Q fuel listed a w → wpAnyIn (Fence.wide.inRound k) n P md ops Q fuel listed a w
  | 0, listed, a, w, h => h
  | fuel + 1, listed, a, w, h => by
    refine ⟨h.1, fun i hi => ?_⟩
    have h1 := h.2 i hi
    unfold wpOp at h1
    unfold wpOpIn
    cases ho : ops[i]? with
    | none => simp only [ho] at h1; exact any_in hx hp fuel _ _ _ h1
    | some o =>
      have hm : plainOp o = true := List.all_eq_true.1 hp o (by
        rw [Array.mem_toList_iff]; exact Array.mem_of_getElem? ho)
      simp only [ho] at h1 ⊢
      split at h1
      · rename_i hw
        rw [if_pos hw]
        rcases h1 with h1 | h1
        · exact op_in (plainOp_to hm) (fun a w h => any_in hx hp fuel _ a w h) h1
        · exact absurd h1.2 hx
      · rename_i hw
        rw [if_neg hw]
        exact ⟨fun _ _ => trivial, any_in hx hp fuel _ _ _ h1⟩
/-- A region that draws, all but its last operation first. -/
theorem in_region_last {S : World → Prop} {id : Nat} {a : Act} {w : World} (ops0 : Array Oper) (o : Oper) (hx : ¬ LetsOut Q) (hp : ops.toList.all plainOp = true) (hpop : ops.pop = ops0) (hback : ops.back? = some o) (hm : P.follows .mixedOrders = true) (hok : lastOk ops0 o = true) (hS : S w.drew)
    (h : S w.drew → wpAnyH P .any ops0 (Rest P ops0 o Q) S ops0.size (Array.replicate ops0.size false) a w.drew) : (Code.region id ops true).wpIn (Fence.wide.inRound k) n P Q a w := by
  have hops : ops = ops0.push o := by
    subst hpop
    apply Array.ext_getElem?
    intro i
    rw [Array.back?_eq_getElem?] at hback
    have hlt := (Array.getElem?_eq_some_iff.1 hback).1
    rw [Array.getElem?_push, Array.size_pop, Array.getElem?_pop]
    by_cases e : i = ops.size - 1
    · rw [if_pos e, e, hback]
    · rw [if_neg e]
      split
      · rfl
      · exact Array.getElem?_eq_none (by omega)
  subst hops
  refine wpIn_region_any hm ?_
  have := wpAny_last (P := P) (Q := Q) hok ops0.size (Array.replicate ops0.size false) a w.drew (by simp) (fun i x hx hl => by
    have := (Array.getElem?_eq_some_iff.1 hx).1
    simp [Array.getD, this] at hl) (wpAny_of_held _ _ _ _ (h hS))
  rw [Array.size_push, Array.replicate_succ]
  exact any_in hx hp _ _ _ _ this
end
end Go.Proofs.Ytdfifneikmlmoaa
namespace Go.Proofs.Ytdfifneikmlmoaa
open Go.ChangeShapes Go.WideShapes Go.ChangeAt Go.RowKit Go.Shelf
set_option linter.unusedVariables false
set_option linter.unusedSimpArgs false
attribute [local go_sem] Oper.semAt_some

theorem reverse_none (w : World) : Calls Try.prog 32 #[.slice none 0 0] w fun e w' => e = .returned (.tuple #[]) ∧ w = w' := by
  refine (Any.slices_Reverse_int_empty lays112 none 0 w).mono ?_
  rintro e w' ⟨rfl, rfl⟩; exact ⟨rfl, rfl⟩
set_option maxRecDepth 100000 in
set_option maxHeartbeats 2000000 in
theorem back_any (a : Option Addr) (n c : Nat) (w : World) : Calls Try.prog 29 #[.slice a n c] w fun e w' => ∃ bx, e = .returned (.func (.func 55) #[] #[.pointer (some ⟨bx, 0, none⟩)]) ∧ w.heap.size ≤ bx ∧ Cs w' bx [.slice a n c] ∧ Below w.heap.size w w' := by
  have t1 : True := trivial
  have hb : ∀ (w : World), (Instr.box 23 (.slice a n c)).run Try.prog w = .ok (.pointer (some ⟨w.heap.size, 0, none⟩)) (w.alloc (.cells #[.slice a n c] 23)) := fun w => by
    simp [Instr.box, newVar, Value.cells, go_sem]
  go_enter Try.func29, Try.ntmps29
  go_wp2
  go_returns
  exact ⟨w.heap.size, rfl, Nat.le_refl _, Cs.made w [.slice a n c] _ (by simp [Value.oneCell']), (Below.refl _ w).alloc (Nat.le_refl _) _⟩
/-- What Needed makes first. -/
def wA (w : World) (gv : Value) : World := ((w.alloc (.cells #[gv] 25)).alloc (.map #[] 0)).alloc (.cells #[.map (some (w.heap.size + 1))] 65)
def wB (w : World) : World := ((w.alloc (.map #[] 0)).alloc (.cells #[.map (some w.heap.size)] 67)).alloc (.cells #[.slice none 0 0] 23)
section
variable (w : World) (gv : Value)
theorem wA_b : Below w.heap.size w (wA w gv) := (((Below.refl _ w).alloc (Nat.le_refl _) _).alloc (by simp) _).alloc (by simp; omega) _
theorem wA_m : MpS (wA w gv) (w.heap.size + 1) (fun _ => false) 0 := by
  have h := MpS.made (w.alloc (.cells #[gv] 25))
  rw [show (w.alloc (.cells #[gv] 25)).heap.size = w.heap.size + 1 by simp] at h
  exact h.later ((Below.refl _ _).alloc (Nat.le_refl _) _)
theorem wA_g (h1 : gv.oneCell' = true) : Cs (wA w gv) w.heap.size [gv] :=
  ((Cs.made w [gv] _ (by simpa using h1)).later ((Below.refl _ _).alloc (Nat.le_refl _) _)).later ((Below.refl _ _).alloc (Nat.le_refl _) _)
theorem wA_v : Cs (wA w gv) (w.heap.size + 1 + 1) [.map (some (w.heap.size + 1))] := by
  have h := Cs.made ((w.alloc (.cells #[gv] 25)).alloc (.map #[] 0)) [.map (some (w.heap.size + 1))] 65 (by simp [Value.oneCell'])
  rw [show ((w.alloc (.cells #[gv] 25)).alloc (.map #[] 0)).heap.size = w.heap.size + 1 + 1 by simp] at h
  exact h
theorem wB_b : Below w.heap.size w (wB w) := (((Below.refl _ w).alloc (Nat.le_refl _) _).alloc (by simp) _).alloc (by simp; omega) _
theorem wB_m : MpI Try.prog 3 (wB w) w.heap.size (fun _ => none) := ((MpI.made w _ _).later ((Below.refl _ _).alloc (Nat.le_refl _) _)).later ((Below.refl _ _).alloc (Nat.le_refl _) _)
theorem wB_v : Cs (wB w) (w.heap.size + 1) [.map (some w.heap.size)] := by
  have h := Cs.made (w.alloc (.map #[] 0)) [.map (some w.heap.size)] 67 (by simp [Value.oneCell'])
  rw [show (w.alloc (.map #[] 0)).heap.size = w.heap.size + 1 by simp] at h
  exact h.later ((Below.refl _ _).alloc (Nat.le_refl _) _)
theorem wB_l : Cs (wB w) (w.heap.size + 1 + 1) [.slice none 0 0] := by
  have h := Cs.made ((w.alloc (.map #[] 0)).alloc (.cells #[.map (some w.heap.size)] 67)) [.slice none 0 0] 23 (by simp [Value.oneCell'])
  rw [show ((w.alloc (.map #[] 0)).alloc (.cells #[.map (some w.heap.size)] 67)).heap.size = w.heap.size + 1 + 1 by simp] at h
  exact h
end
theorem ownFrom_stp {β : Type} {B : Nat} {I : β → World → Prop} (h : ∀ s W W', I s W → Stp (fun x => B ≤ x) W W' → I s W') : OwnFrom B I := fun s W W' row hs hg hr => h s W W' hs (Stp.of_grown hg (fun x e => .inl (hr x e).1))
set_option maxRecDepth 100000 in
set_option maxHeartbeats 2000000 in
/-- No number: no round. -/
theorem back0_stops {w : World} {bx : Nat} {a : Option Addr} {c : Nat} (n : Nat) (r : Cs w bx [.slice a 0 c]) :
    SeqStopsK Fence.wide n Try.prog 55 #[.pointer (some ⟨bx, 0, none⟩)] (fun x : Int × Int => #[Value.int .i64 x.1, Value.int .i64 x.2]) (fun _ _ => True) (fun ys => ys = []) (fun _ => True) 0 w := fun l J Jx W hW _ _ hY h0 => by
  have hc := (r.later hW).cell 0 _ rfl
  refine callsIn_of_wp Try.func55 rfl trivial ?_ rfl
  simp only [Try.ntmps55, List.size_toArray, List.length_cons, List.length_nil, Nat.reduceAdd, Nat.reduceSub, Array.replicate_succ, Array.replicate_zero, List.push_toArray, List.append_toArray, List.nil_append, List.cons_append]
  gi_wp2
  gi_loopw [3] (fun i wr => i = .int .i64 (-1) ∧ J [] wr) (fun _ _ => 0)
  case atStart => exact ⟨by go_num, h0⟩
  case round =>
    obtain ⟨rfl, hJs⟩ := hrel
    gi_wp2
    go_end0
    exact ⟨⟨_, rfl⟩, .inl ⟨_, rfl, hJs⟩⟩
set_option maxRecDepth 100000 in
set_option maxHeartbeats 4000000 in
theorem needed_nil {w : World} {s : Sv} {l : List Int} (hs : InsS w s l) (hl : l.length ≤ 1000) :
    Calls Try.prog 8 #[.pointer none, .slice s.a s.n s.c] w fun e w' => e = .returned (.slice none 0 0) ∧ Below w.heap.size w w' := by
  have hmm := @run_makeMap Try.prog
  refine (callsIn_wide (n := 6)).1 ?_
  refine callsIn_of_wp_marks Try.func8 rfl trivial ?_ rfl
  simp only [Try.ntmps8, List.size_toArray, List.length_cons, List.length_nil, Nat.reduceAdd, Nat.reduceSub, Array.replicate_succ, Array.replicate_zero, List.push_toArray, List.append_toArray, List.nil_append, List.cons_append]
  refine wpIn_wide.2 ?_
  have bA := wA_b w (.pointer none)
  have hW := want_any (wA_m w (.pointer none)) (hs.later bA) (by omega)
  have gA := wA_g w (.pointer none) rfl
  unfold wA at hW
  go_wp2_with (first
    | (go_at_call 28; refine hW.mono ?_; rintro e w3 ⟨rfl, M3, s3⟩; clear hW
       have B3 : Below w.heap.size w w3 := ((Stp.of_below bA (fun _ => False)).next s3 (fun x e => .inr (by omega))).below (Nat.le_refl _) (fun x e => e.elim)
       have g3 := gA.step s3 (by omega)
       have bB := wB_b w3
       have gB := (g3.later bB).cell 0 _ rfl
       have lB := wB_l w3
       unfold wB at gB)
    | (go_at_call 11; refine (all_nil _).mono ?_; rintro e w4 ⟨rfl, rfl⟩)
    | (go_at_call 29; refine (back_any _ _ _ _).mono ?_; rintro e w5 ⟨bx, rfl, h5, r5, b5⟩
       have l5 := (lB.later b5))
    )
  refine (wpIn_wide (n := 6)).1 ?_
  have z5 := b5.size
  have zB := bB.size
  have lt5 := l5.lt
  have B5 : Below w.heap.size w w5 := bnext (bnext B3 bB (Nat.le_refl _)) b5 (Nat.le_refl _)
  refine wpIn_rangeFunc_ownG (F := Fence.wide) (n := 6) (w0 := w5) rfl (by omega) (gf := 55) (lb := #[.pointer (some ⟨bx, 0, none⟩)]) rfl trivial (enters_of Try.func55 (by kernel_rfl) rfl)
    (back0_stops 5 r5) (fun _ _ => trivial) (fun _ _ _ _ _ _ _ _ => trivial) (Below.refl _ _) (fun _ => rfl)
    (fun _ W => Cs W (w3.heap.size + 1 + 1) [.slice none 0 0] ∧ Below w.heap.size w W)
    (fun _ _ _ => False)
    (ownFrom_stp fun s W W' h k => ⟨h.1.step k (by omega), h.2.trans (k.below (Nat.le_trans (Nat.le_refl _) h.2.size) (fun x hx => Nat.le_trans B5.size hx))⟩)
    (fun _ _ _ _ _ hs _ _ => hs)
    ⟨l5, B5⟩ ?a1 ?assign ?body ?done ?stop
  case assign =>
    intro l x W K hK
    gi_wp2
    exact hK
  case body => exact fun l pre x W _ hlt => absurd hlt (Nat.not_lt_zero _)
  case stop => exact fun D c pre W _ _ h _ => h.elim
  case done =>
    rintro D ys W hD rfl ⟨hC, hB⟩ hK
    have c7 := hC.cell 0 _ rfl
    go_wp2_with (first | (go_at_call 32; refine (reverse_none _).mono ?_; rintro e w6 ⟨rfl, rfl⟩))
    refine ⟨by simp, .inl ⟨_, _, rfl, run_takeDeferred hK, ?_⟩⟩
    exact ⟨_, results_tmp rfl _ _ _, rfl, hB.trans (belowK_b (w := w) (Nat.le_refl _) W D _ _ (by have := B5.size; omega) hK rfl rfl)⟩
end Go.Proofs.Ytdfifneikmlmoaa
namespace Go.Proofs.Ytdfifneikmlmoaa
open Go.ChangeShapes Go.WideShapes Go.ChangeAt Go.RowKit Go.Shelf Go.Sort
set_option linter.unusedVariables false
set_option linter.unusedSimpArgs false
attribute [local go_sem] Oper.semAt_some

theorem uSh : Try.prog.underlying 67 = some (.map 3 79) := by kernel_rfl
theorem zSh (w : World) : (zeroValue 79).run Try.prog w = .ok (.agg (shC 0 0).toArray) w := srtS.zero w
theorem zE (w : World) : (zeroValue 75).run Try.prog w = .ok (.agg #[]) w := by kernel_rfl
theorem keeps_stp {B : Nat} {F : Nat → Prop} {W W' : World} (k : Stp F W W') (h : ∀ x o, B ≤ x → F x → W.heap[x]? = some o → o.isCells = true) : KeepsFrom B W W' :=
  ⟨k.size, fun x o hB hx ho => by
    have hlt := (Array.getElem?_eq_some_iff.1 hx).1
    by_cases hF : F x
    · rw [h x o hB hF hx] at ho; cases ho
    · rw [k.block x hlt hF]; exact hx⟩
theorem kb_stp {F : Nat → Prop} {W W' : World} (k : Stp F W W') {b c : Nat} (h1 : b < W.heap.size) (h2 : c < W.heap.size) (h3 : ¬ F b) (h4 : ¬ F c) : Kb b c W W' := ⟨k.block b h1 h3, k.block c h2 h4⟩
theorem kb_put {w : World} {b c : Nat} (hb : b < w.heap.size) (hc : c < w.heap.size) (W : World) (l : Nat) (o o' : Obj) (hl : w.heap.size ≤ l) (h : W.heap[l]? = some o) (h1 : o.isCells = false) (h2 : o.isWalk = false) : Kb b c W (W.putObj l o') := by
  have hg := grownBy_putObj' W l o'
  have hlt := (Array.getElem?_eq_some_iff.1 h).1
  exact ⟨hg.block b (by omega) (fun e => by injection e with e; omega), hg.block c (by omega) (fun e => by injection e with e; omega)⟩
theorem ob_eq' {b n c r : Nat} (h : (Value.slice (some ⟨b, 0, none⟩) n c).ownBlock = some r) : b = r := by simpa [Value.ownBlock] using h
theorem Cs.notSet {w : World} {g b n : Nat} {cs : List Value} {S : Int → Bool} (h : Cs w g cs) (hm : MpS w b S n) : g ≠ b := fun e => by
  obtain ⟨⟨t, h⟩, _⟩ := h
  obtain ⟨D, ⟨es, clock, hh, _⟩, _⟩ := hm
  rw [e, hh] at h; cases h
/-- What stands behind some rounds. -/
structure NeI (w w0 W : World) (is : List Int) (g gg gS gM gl bS mS : Nat) (v : Value) (cw cs cl : List Pt) : Prop where
  ms : ∃ n, n ≤ is.length + 6 * cw.length ∧ MpS W bS (wS is cw) n
  sh : MpI Try.prog 3 W mS (shF cs)
  bl : Cs W gl [v]
  ol : OwV W v (ids cl)
  nw : New w0.heap.size v
  cg : Cs W gg [.pointer (some ⟨g, 0, none⟩)]
  cS : Cs W gS [.map (some bS)]
  cM : Cs W gM [.map (some mS)]
  b : Below w.heap.size w W
  z : w0.heap.size ≤ W.heap.size
/-- What a round may change. -/
def NeF (gl bS mS : Nat) (v : Value) (y : Nat) : Prop := y = gl ∨ y = bS ∨ y = mS ∨ v.ownBlock = some y
/-- Blocks that lie apart. -/
structure NeA (w w0 : World) (gg gS gM gl bS mS : Nat) : Prop where
  g1 : w.heap.size ≤ gg ∧ gg < w0.heap.size
  g2 : w.heap.size ≤ gS ∧ gS < w0.heap.size
  g3 : w.heap.size ≤ gM ∧ gM < w0.heap.size
  g4 : w.heap.size ≤ gl ∧ gl < w0.heap.size
  g5 : w.heap.size ≤ bS ∧ bS < w0.heap.size
  g6 : w.heap.size ≤ mS ∧ mS < w0.heap.size
  n1 : gg ≠ gl ∧ gS ≠ gl ∧ gM ≠ gl
  n2 : bS ≠ mS
section
variable {w w0 W W' W1 : World} {is : List Int} {g gg gS gM gl bS mS : Nat} {v v' : Value} {cw cs cl : List Pt} {p : Pt}
theorem NeI.step (h : NeI w w0 W is g gg gS gM gl bS mS v cw cs cl) {F : Nat → Prop} (k : Stp F W W') (h1 : ¬ F bS) (h2 : ¬ F mS) (h3 : ¬ F gl) (h4 : ∀ r, v.ownBlock = some r → ¬ F r) (h5 : ¬ F gg ∧ ¬ F gS ∧ ¬ F gM) (hb : Below w.heap.size w W') : NeI w w0 W' is g gg gS gM gl bS mS v cw cs cl := by
  obtain ⟨n, e1, e2⟩ := h.ms
  exact ⟨⟨n, e1, e2.step k h1⟩, h.sh.step k h2, h.bl.step k h3, h.ol.step k h4, h.nw, h.cg.step k h5.1, h.cS.step k h5.2.1, h.cM.step k h5.2.2, hb, Nat.le_trans h.z k.size⟩
theorem NeI.later (h : NeI w w0 W is g gg gS gM gl bS mS v cw cs cl) (k : Below W.heap.size W W') : NeI w w0 W' is g gg gS gM gl bS mS v cw cs cl :=
  h.step (Stp.of_below k (fun _ => False)) id id id (fun _ _ => id) ⟨id, id, id⟩ (bnext h.b k (Nat.le_refl _))
theorem NeI.own (A : NeA w w0 gg gS gM gl bS mS) (h : NeI w w0 W is g gg gS gM gl bS mS v cw cs cl) {row : Option Nat} (hg : W.grownBy W' row) (hr : ∀ r, row = some r → w0.heap.size ≤ r ∧ ∃ o : Obj, W.heap[r]? = some o ∧ o.isCells = false) : NeI w w0 W' is g gg gS gM gl bS mS v cw cs cl := by
  have k : Stp (fun x => row = some x) W W' := Stp.of_grown hg (fun x e => .inl e)
  have low : ∀ x, x < w0.heap.size → ¬ (row = some x) := fun x hx e => by have := (hr x e).1; omega
  have hv : ∀ r, v.ownBlock = some r → ¬ (row = some r) := fun r hr' e => by
    obtain ⟨_, o, ho, hc⟩ := hr r e
    rcases h.ol.2 with ⟨e1, _⟩ | ⟨g', c', cur, e1, e2, e3, _⟩
    · rw [e1] at hr'; cases hr'
    · rw [e1] at hr'
      obtain rfl := ob_eq' hr'
      rw [e3] at ho; cases ho; cases hc
  refine h.step k (low _ A.g5.2) (low _ A.g6.2) (low _ A.g4.2) hv ⟨low _ A.g1.2, low _ A.g2.2, low _ A.g3.2⟩ (h.b.grown hg h.b.size (fun x e => ?_))
  have := (hr x e).1
  have := A.g1
  omega
/-- One more is wanted, laid over, told. -/
theorem NeI.want (A : NeA w w0 gg gS gM gl bS mS) (h : NeI w w0 W is g gg gS gM gl bS mS v cw cs cl) {n : Nat} (hn : n ≤ is.length + 6 * cw.length) (h6 : p.needs.length ≤ 6) (hM : MpS W' bS (fun x => wS is cw x || p.needs.contains x) (n + p.needs.length)) (k : Stp (fun x => x = bS) W W') (hv : ∀ r, v.ownBlock = some r → r ≠ bS) (ha : gl ≠ bS ∧ gg ≠ bS ∧ gS ≠ bS ∧ gM ≠ bS) : NeI w w0 W' is g gg gS gM gl bS mS v (cw ++ [p]) cs cl := by
  refine ⟨⟨n + p.needs.length, by simp; omega, by rw [wS_snoc]; exact hM⟩, h.sh.step k (Ne.symm A.n2), h.bl.step k ha.1, h.ol.step k hv, h.nw, h.cg.step k ha.2.1, h.cS.step k ha.2.2.1, h.cM.step k ha.2.2.2, ((Stp.of_below h.b (fun _ => False)).next k (fun x e => .inr (by have := A.g5; omega))).below (Nat.le_refl _) (fun x e => e.elim), Nat.le_trans h.z k.size⟩
theorem NeI.shade (A : NeA w w0 gg gS gM gl bS mS) (h : NeI w w0 W is g gg gS gM gl bS mS v cw cs cl) (hM : MpI Try.prog 3 W' mS (shF (cs ++ [p]))) (k : Stp (fun x => x = mS) W W') (hv : ∀ r, v.ownBlock = some r → r ≠ mS) (ha : gl ≠ mS ∧ gg ≠ mS ∧ gS ≠ mS ∧ gM ≠ mS) : NeI w w0 W' is g gg gS gM gl bS mS v cw (cs ++ [p]) cl := by
  obtain ⟨n, e1, e2⟩ := h.ms
  exact ⟨⟨n, e1, e2.step k A.n2⟩, hM, h.bl.step k ha.1, h.ol.step k hv, h.nw, h.cg.step k ha.2.1, h.cS.step k ha.2.2.1, h.cM.step k ha.2.2.2, ((Stp.of_below h.b (fun _ => False)).next k (fun x e => .inr (by have := A.g6; omega))).below (Nat.le_refl _) (fun x e => e.elim), Nat.le_trans h.z k.size⟩
theorem NeI.tell (A : NeA w w0 gg gS gM gl bS mS) (h : NeI w w0 W is g gg gS gM gl bS mS v cw cs cl) (b1 : Below W.heap.size W W1) (hA : Apd W1 w0.heap.size 3 1 v (ids cl).length 1 ((ids cl).map (Value.int .i64) ++ [.int .i64 p.id]) v' W') (h1 : v'.oneCell' = true) :
    NeI w w0 (W'.setCell ⟨gl, 0, none⟩ v') is g gg gS gM gl bS mS v' cw cs (cl ++ [p]) ∧ Stp (fun x => x = gl ∨ v.ownBlock = some x) W (W'.setCell ⟨gl, 0, none⟩ v') ∧ W'.cell? ⟨gl, 0, none⟩ = some v ∧ W'.frozen? ⟨gl, 0, none⟩ = false := by
  obtain ⟨q1, q2, q3, q4, _⟩ := hA
  have hlo : ∀ x, x < w0.heap.size → ¬ v.ownBlock = some x := fun x hx e => by have := h.nw x e; omega
  have s1 : Stp (fun x => v.ownBlock = some x) W W' := (Stp.of_below b1 _).trans q4
  have o1 : OwV W' v' (ids (cl ++ [p])) := by
    unfold OwV
    have : ids (cl ++ [p]) = ids cl ++ [p.id] := by simp [ids]
    rw [this]; simpa using q1
  have c1 := h.bl.step s1 (hlo _ A.g4.2)
  have s2 : Stp (fun x => x = gl) W' (W'.setCell ⟨gl, 0, none⟩ v') := (Stp.refl (fun x => x = gl) W').setCell (p := ⟨gl, 0, none⟩) (.inl rfl) _
  have s12 : Stp (fun x => x = gl ∨ v.ownBlock = some x) W (W'.setCell ⟨gl, 0, none⟩ v') := (s1.mono (fun x e => .inl (.inr e))).trans (s2.mono (fun x e => .inl (.inl e)))
  have hgl : ∀ r, v'.ownBlock = some r → r ≠ gl := fun r e => by have := q2 r e; have := A.g4; omega
  obtain ⟨n, e1, e2⟩ := h.ms
  have hne : ∀ x, x < w0.heap.size → x ≠ gl → ¬ (x = gl ∨ v.ownBlock = some x) := fun x hx e => by rintro (e1 | e1); exact e e1; exact hlo x hx e1
  have hms : bS ≠ gl ∧ mS ≠ gl := by
    refine ⟨fun e => ?_, fun e => ?_⟩
    · exact h.bl.notSet e2 e.symm
    · exact h.bl.notMap h.sh e.symm
  refine ⟨⟨⟨n, e1, e2.step s12 (hne _ A.g5.2 hms.1)⟩, h.sh.step s12 (hne _ A.g6.2 hms.2), c1.set 0 _ h1, o1.step s2 hgl, q2, h.cg.step s12 (hne _ A.g1.2 A.n1.1), h.cS.step s12 (hne _ A.g2.2 A.n1.2.1), h.cM.step s12 (hne _ A.g3.2 A.n1.2.2), ((Stp.of_below h.b (fun _ => False)).next s12 (fun x e => .inr (by rcases e with e | e; have := A.g4; omega; have := h.nw x e; have := A.g4; omega))).below (Nat.le_refl _) (fun x e => e.elim), Nat.le_trans h.z s12.size⟩, s12, c1.cell 0 _ rfl, c1.frozen 0⟩
theorem apd_shape {w w' : World} {B n m : Nat} {v v' : Value} {l : List Value} (hA : Apd w B 3 1 v n m l v' w') : ∃ a n c, v' = .slice a n c := by
  rcases hA.1.2 with ⟨e, _⟩ | ⟨g, cap, cur, e, _⟩
  · exact ⟨_, _, _, e⟩
  · exact ⟨_, _, _, e⟩
end
theorem reverse_own {w : World} {v : Value} {l : List Int} (h : OwV w v l) (hl : l.length ≤ 1000000) :
    Calls Try.prog 32 #[v] w fun e w' => e = .returned (.tuple #[]) ∧ OwV w' v l.reverse ∧ Stp (fun x => v.ownBlock = some x) w w' := by
  rcases h.row with ⟨rfl, rfl⟩ | ⟨g, cap, cur, rfl, hw⟩
  · refine Calls.mono (Any.slices_Reverse_int_empty lays112 none 0 w) ?_
    rintro e w' ⟨rfl, rfl⟩
    exact ⟨rfl, OwV.nil _, Stp.refl _ _⟩
  · refine Calls.mono (Any.slices_Reverse_int lays112 g 0 cap l w hw.holds (by omega)) ?_
    rintro e w' ⟨rfl, q, rfl⟩
    refine ⟨rfl, ?_, (putRow_stp w g q _).mono (fun x e => .inl (by subst e; rfl))⟩
    have hlr : l.reverse.length = l.length := List.length_reverse
    rw [← hlr]
    refine Rw1.own (cur := putCells (Value.int .i64) 0 l.reverse.toArray cur) ⟨putRow_heap _ hw.at', by rw [hlr]; exact hw.le, hw.cm, by simp [putCells, hw.size], ?_⟩
    exact take_putCellsI cur l.reverse (by rw [hlr, hw.size]; exact hw.le)
theorem ids_reverse (l : List Pt) : (ids l).reverse = ids l.reverse := by unfold ids; rw [List.map_reverse]
theorem thP_all (l : List Pt) : thP l (fun _ => true) = l := List.filter_eq_self.2 (fun _ _ => rfl)
theorem ids_ne {l : List Pt} (h : 0 < l.length) : ids l ≠ [] := fun e => by
  have := congrArg List.length e
  simp [ids] at this; rw [this] at h; simp at h
theorem ids_len (l : List Pt) : (ids l).length = l.length := by unfold ids; simp
theorem back_stops {w : World} {bx b len cap : Nat} {zs : List Int} (n : Nat) (hn : 1 ≤ n) (hlen : len ≤ 100000) (hpos : 0 < len) (r : Cs w bx [.slice (some ⟨b, 0, none⟩) len cap]) (hc : ∀ j, j < len → w.cell? ⟨b, 0 + j, none⟩ = some (.int .i64 (zs.getD j 0))) (el : Nat → Fin len) (hel : ∀ j, j < len → (el j).1 = j) :
    SeqStopsK Fence.wide n Try.prog 55 #[.pointer (some ⟨bx, 0, none⟩)] (fun x : Fin len => #[Value.int .i64 (x.1 : Int), Value.int .i64 (zs.getD x.1 0)]) (Kb b bx) (fun ys => ys = bk el len 0) (fun _ => True) len w := fun l J Jx W hW _ _ hY h0 =>
  back1_in (fun x : Fin len => #[Value.int .i64 (x.1 : Int), Value.int .i64 (zs.getD x.1 0)]) el Fence.wide n trivial rfl hn l bx b 0 len cap zs hlen (fun j hj => by simp only [hel j hj]) J Jx (fun pre x W1 h1 h2 => hY pre x W1 h1 h2) W ((r.later hW).cell 0 _ rfl) (fun j hj => by rw [hW.cell (World.block_lt_of_cell? w _ (hc j hj))]; exact hc j hj) h0
set_option maxRecDepth 100000 in
set_option maxHeartbeats 4000000 in
theorem needed_any {w : World} {g mp mw : Nat} {f fw : Int → Option Value} {Z : GZ} {E F : Nat → Prop} (H : Gr w g mp mw f fw Z E F) {s : Sv} {is : List Int} (hs : InsS w s is) (hl : is.length ≤ 1000) (hzl : Z.l.length ≤ 100) (hn6 : ∀ p ∈ Z.l, p.needs.length ≤ 6) (hne : 0 < Z.l.length) :
    Calls Try.prog 8 #[.pointer (some ⟨g, 0, none⟩), .slice s.a s.n s.c] w fun e w' => ∃ v, e = .returned v ∧ OwV w' v (ids (nd is Z.l)) ∧ New w.heap.size v ∧ Below w.heap.size w w' := by
  have hmm := @run_makeMap Try.prog
  refine (callsIn_wide (n := 6)).1 ?_
  refine callsIn_of_wp_marks Try.func8 rfl trivial ?_ rfl
  simp only [Try.ntmps8, List.size_toArray, List.length_cons, List.length_nil, Nat.reduceAdd, Nat.reduceSub, Array.replicate_succ, Array.replicate_zero, List.push_toArray, List.append_toArray, List.nil_append, List.cons_append]
  refine wpIn_wide.2 ?_
  have bA := wA_b w (.pointer (some ⟨g, 0, none⟩))
  have hW := want_any (wA_m w (.pointer (some ⟨g, 0, none⟩))) (hs.later bA) (by omega)
  have gA := wA_g w (.pointer (some ⟨g, 0, none⟩)) rfl
  have vA := wA_v w (.pointer (some ⟨g, 0, none⟩))
  unfold wA at hW
  go_wp2_with (first
    | (go_at_call 28; refine hW.mono ?_; rintro e w3 ⟨rfl, M3, s3⟩; clear hW
       have B3 : Below w.heap.size w w3 := ((Stp.of_below bA (fun _ => False)).next s3 (fun x e => .inr (by omega))).below (Nat.le_refl _) (fun x e => e.elim)
       have g3 := gA.step s3 (by omega)
       have v3 := vA.step s3 (by omega)
       have bB := wB_b w3
       have gB := (g3.later bB).cell 0 _ rfl
       have lB := wB_l w3
       have mB := wB_m w3
       have qB := wB_v w3
       have B4 := bnext B3 bB (Nat.le_refl _)
       have H4 := H.later B4
       have hAll := all_any H4
       unfold wB at gB hAll)
    | (go_at_call 11; refine hAll.mono ?_; rintro e w4 ⟨va, rfl, o4, n4, b4⟩; clear hAll
       rw [thP_all] at o4
       obtain ⟨xb, xc, xcur, rfl, r4⟩ := o4.row1 (ids_ne hne))
    | (go_at_call 29; refine (back_any _ _ _ _).mono ?_; rintro e w5 ⟨bx, rfl, h5, r5, b5⟩
       have l5 := (lB.later b4).later b5)
    )
  refine (wpIn_wide (n := 6)).1 ?_
  rw [ids_len] at r5
  have z3 := B3.size
  have z5 := b5.size
  have zB := bB.size
  have b4' : Below (wB w3).heap.size (wB w3) w4 := b4
  have z4 := b4'.size
  have n4' : (wB w3).heap.size ≤ xb := n4 xb (by simp [Value.ownBlock])
  have lxb : xb < w4.heap.size := r4.lt
  have lbx := r5.lt
  have B5 : Below w.heap.size w w5 := bnext (bnext B4 b4' (Nat.le_refl _)) b5 (Nat.le_refl _)
  have hgM : w3.heap.size + 1 + 1 < (wB w3).heap.size := lB.lt
  have hgv : w.heap.size + 1 + 1 < w3.heap.size := v3.lt
  have A : NeA w w5 w.heap.size (w.heap.size + 1 + 1) (w3.heap.size + 1) (w3.heap.size + 1 + 1) (w.heap.size + 1) w3.heap.size := ⟨by omega, by omega, by omega, by omega, by omega, by omega, by omega, by omega⟩
  have i0 : ∃ v, NeI w w5 w5 is g w.heap.size (w.heap.size + 1 + 1) (w3.heap.size + 1) (w3.heap.size + 1 + 1) (w.heap.size + 1) w3.heap.size v [] [] [] := by
    refine ⟨.slice none 0 0, ⟨⟨is.length, by omega, ?_⟩, ?_, l5, ⟨rfl, .inl ⟨rfl, rfl⟩⟩, (fun r e => by cases e), ((g3.later bB).later b4').later b5, ((v3.later bB).later b4').later b5, (qB.later b4').later b5, B5, Nat.le_refl _⟩⟩
    · rw [wS_nil]
      have := ((M3.later bB).later b4').later b5
      rw [Nat.zero_add] at this; exact this
    · rw [shF_nil]; exact (mB.later b4').later b5
  have hord : w.heap.size + 1 < (wB w3).heap.size ∧ w3.heap.size < (wB w3).heap.size := ⟨by omega, by omega⟩
  have hcells : ∀ j, j < Z.l.length → w5.cell? ⟨xb, 0 + j, none⟩ = some (.int .i64 ((ids Z.l).getD j 0)) := fun j hj => by
    have h1 := r4.cell j (by rw [ids_len]; exact hj)
    rw [Nat.zero_add, b5.cell (World.block_lt_of_cell? w4 _ h1)]; exact h1
  clear gB hmm gA vA bA s3 g3 v3 bB lB mB qB B4 H4 b4 o4 n4 r4 l5 M3
  generalize w3.heap.size + 1 + 1 = gl at *
  generalize w3.heap.size + 1 = gM at *
  generalize w3.heap.size = mS at *
  generalize w.heap.size + 1 + 1 = gS at *
  generalize w.heap.size + 1 = bS at *
  generalize hgg : w.heap.size = gg at A i0 ⊢
  have hgg' : Hid (w.heap.size = gg) := hgg
  clear hgg
  refine wpIn_rangeFunc_ownG (F := Fence.wide) (n := 6) (w0 := w5) rfl (by omega) (gf := 55) (lb := #[.pointer (some ⟨bx, 0, none⟩)]) rfl trivial (enters_of Try.func55 (by kernel_rfl) rfl)
    (back_stops 5 (by omega) (by omega) hne r5 hcells (fun j => if h : j < Z.l.length then ⟨j, h⟩ else ⟨0, hne⟩) (fun j hj => by simp [hj])) (fun h k => h.trans k) (kb_put (by omega) lbx) (Below.refl _ _) (fun _ => rfl)
    (fun pre W => ∃ v, NeI w w5 W is g gg gS gM gl bS mS v (chL is Z.l pre) (chL is Z.l pre) (chL is Z.l pre))
    (fun _ _ _ => False)
    (fun pre W W' row h hg hr => h.imp (fun v h => h.own A hg hr))
    (fun _ _ _ _ _ hs _ _ => hs)
    i0 ?a1 ?assign ?body ?done ?stop
  case assign =>
    intro l x W K hK
    gi_wp2
    exact hK
  case stop => exact fun D c pre W _ _ h _ => h.elim
  case body =>
    rintro l pre x W ⟨v0, I0⟩ hlt
    have hcs := chL_sub (is := is) (l := Z.l) pre
    have hcl := chL_len (is := is) (l := Z.l) pre
    have hcn := chL_snoc is Z.l pre x
    have fin : ∀ {W' : World} {v' : Value}, NeI w w5 W' is g gg gS gM gl bS mS v' (chS is Z.l (chL is Z.l pre) x) (chS is Z.l (chL is Z.l pre) x) (chS is Z.l (chL is Z.l pre) x) → Stp (NeF gl bS mS v0) W W' → KeepsFrom w5.heap.size W W' ∧ Kb xb bx W W' ∧ ∃ v, NeI w w5 W' is g gg gS gM gl bS mS v (chL is Z.l (pre ++ [x])) (chL is Z.l (pre ++ [x])) (chL is Z.l (pre ++ [x])) := fun {W' v'} h k => by
      rw [hcn]
      have hz := I0.z
      refine ⟨keeps_stp k (fun y o hB hF ho => ?_), kb_stp k (by omega) (by omega) (fun e => ?_) (fun e => ?_), v', h⟩
      · rcases hF with e | e | e | e
        · have := A.g4; omega
        · have := A.g5; omega
        · have := A.g6; omega
        · rcases I0.ol.2 with ⟨e1, _⟩ | ⟨g', c', cur, e1, e2, e3, _⟩
          · rw [e1] at e; cases e
          · rw [e1] at e
            obtain rfl := ob_eq' e
            rw [e3] at ho; cases ho; rfl
      · rcases e with e | e | e | e
        · omega
        · omega
        · omega
        · have := I0.nw _ e; omega
      · rcases e with e | e | e | e
        · omega
        · omega
        · omega
        · have := I0.nw _ e; omega
    clear hcn
    generalize chL is Z.l pre = c at *
    have HW := H.later I0.b
    obtain ⟨p, hp⟩ : ∃ p, Z.l[x.1]? = some p := ⟨_, List.getElem?_eq_getElem x.2⟩
    have hpm := List.mem_of_getElem? hp
    have hid : (ids Z.l)[x.1]?.getD 0 = p.id := by unfold ids; rw [List.getElem?_map, hp]; rfl
    obtain ⟨d4, n4, e4, m4, _⟩ := HW.look p.id
    rw [H.ok.gt_of hpm] at e4 m4
    have hwp := H.ok.wfp hpm
    have hfp := H.ok.ft p hpm
    have hnp := hn6 p hpm
    rw [hid]
    have pmW := HW.pm
    obtain ⟨z0, z1, z2⟩ := HW.cells
    have cg := I0.cg.cell 0 _ rfl
    have hsw := wnt_split is c p
    have hfc : ∀ q ∈ wtP c p.at', fit q = true ∧ q.at' = p.at' := fun q hq => by
      obtain ⟨k1, k2, _⟩ := wtP_mem.1 hq
      exact ⟨H.ok.ft q (hcs q k1), k2⟩
    have hmt := mtS_is p hfp (wtP c p.at') hfc
    have hshl := sh_lt (wtP c p.at') (fun q hq => (hfc q hq).1)
    rw [← hmt] at hsw
    have hMe := fun (u : World) => meets_any (shB (wtP c p.at')) (shK (wtP c p.at')) p d4 n4 u hshl.1 hshl.2 hfp m4.bs.len.symm
    have eS := shF_get c p.at'
    clear hmt hfc
    obtain ⟨mt, emt⟩ : ∃ mt, mt = mtS (shB (wtP c p.at')) (shK (wtP c p.at')) p := ⟨_, rfl⟩
    rw [← emt] at hsw
    simp only [← emt] at hMe
    obtain ⟨inn, ein⟩ : ∃ inn, inn = wS is c p.id := ⟨_, rfl⟩
    rw [← ein] at hsw
    have hE1 : ∀ n, MpS W bS (wS is c) n → (stF (wS is c) p.id).getD (.agg #[]) = .agg #[] ∧ (stF (wS is c) p.id).isSome = inn := fun n _ => by
      rw [ein]; unfold stF; cases wS is c p.id <;> exact ⟨rfl, rfl⟩
    obtain ⟨nn, hnn, hMS⟩ := I0.ms
    obtain ⟨eI1, eI2⟩ := hE1 nn hMS
    clear hE1 ein emt
    have t1 : True := trivial
    have t2 : True := trivial
    cases hw : wnt is c p with
    | false =>
      have hsw' : inn = false ∧ (p.wr = true ∨ mt = false) := by
        rw [hw] at hsw
        have h9 := hsw.symm
        simp only [Bool.or_eq_false_iff, Bool.and_eq_false_iff, Bool.not_eq_false'] at h9
        exact h9
      obtain ⟨hi, hwm⟩ := hsw'
      subst hi
      clear hsw
      by_cases hwr : p.wr = true
      · gi_wp2_with (first
          | (clear t1; refine list_in (fun ⟨_, _, h⟩ => h) _ _ _ (by rfl) ?_
             go_wp2_with (first
               | (clear t2; refine at_look1 71 40 uPm _ zP (by rfl) _ _ (by rfl) mp f (by rfl) pmW p.id (by rfl) hwp.i _ e4 ?_)
               | (refine at_newP (by rfl) (by rfl) ?_; intro gp w1 a1 a2 r1 b1)
               | (refine at_putP (by rfl) _ _ (by rfl) gp (by rfl) p d4 n4 (by rfl) _ r1 rfl ?_; intro w2 r2 s2
                  have B2 : Below W.heap.size W w2 := ((Stp.of_below b1 (fun _ => False)).next s2 (fun x e => .inr (by omega))).below (Nat.le_refl _) (fun x e => e.elim)
                  have I2 := I0.later B2
                  have cS2 := I2.cS.cell 0 _ rfl
                  have M2 := (hMS.later B2).mp (by omega)
                  have b3 : Below w2.heap.size w2 (w2.alloc (.cells #[] 75)) := (Below.refl _ w2).alloc (Nat.le_refl _) _
                  have I3 := I2.later b3
                  have B3w := bnext B2 b3 (Nat.le_refl _)
                  have M3 := hMS.later B3w
                  have r3 := r2.later b3
                  have cM3 := I3.cM.cell 0 _ rfl
                  have cl3 := I3.bl.cell 0 _ rfl
                  have sh3 := I3.sh
                  obtain ⟨k0, k1, k2, k3, k4, k5, k6, k7, k8⟩ := Pt.cells r3
                  clear r2 s2 b1 r1 I2 b3
                  have t8 : True := trivial
                  have t9 : True := trivial)))
          | (clear t8; refine list_in (fun ⟨_, _, h⟩ => h) _ _ _ (by rfl) ?_
             go_wp2_with (first
               | (clear t9; refine at_look2' 65 75 uSm _ zE (by rfl) _ _ (by rfl) bS _ (by rfl) M2 p.id (by rfl) hwp.i _ eI1 _ eI2 ?_; clear M2 cS2; have t10 : True := trivial)))
          | (clear t10; have t13 : True := trivial; generalize w2.alloc (.cells #[] 75) = u3 at *; refine list_in (fun ⟨_, _, h⟩ => h) _ _ _ (by rfl) ?_
             go_wp2_with fail))
        refine fin (v' := v0) (by rw [chS_no hp hw]; exact I3) (Stp.of_below B3w _)
      · have hwr : p.wr = false := by simpa using hwr
        obtain rfl : mt = false := by rcases hwm with h | h; rw [hwr] at h; cases h; exact h
        gi_wp2_with (first
          | (clear t1; refine list_in (fun ⟨_, _, h⟩ => h) _ _ _ (by rfl) ?_
             go_wp2_with (first
               | (clear t2; refine at_look1 71 40 uPm _ zP (by rfl) _ _ (by rfl) mp f (by rfl) pmW p.id (by rfl) hwp.i _ e4 ?_)
               | (refine at_newP (by rfl) (by rfl) ?_; intro gp w1 a1 a2 r1 b1)
               | (refine at_putP (by rfl) _ _ (by rfl) gp (by rfl) p d4 n4 (by rfl) _ r1 rfl ?_; intro w2 r2 s2
                  have B2 : Below W.heap.size W w2 := ((Stp.of_below b1 (fun _ => False)).next s2 (fun x e => .inr (by omega))).below (Nat.le_refl _) (fun x e => e.elim)
                  have I2 := I0.later B2
                  have cS2 := I2.cS.cell 0 _ rfl
                  have M2 := (hMS.later B2).mp (by omega)
                  have b3 : Below w2.heap.size w2 (w2.alloc (.cells #[] 75)) := (Below.refl _ w2).alloc (Nat.le_refl _) _
                  have I3 := I2.later b3
                  have B3w := bnext B2 b3 (Nat.le_refl _)
                  have M3 := hMS.later B3w
                  have r3 := r2.later b3
                  have cM3 := I3.cM.cell 0 _ rfl
                  have cl3 := I3.bl.cell 0 _ rfl
                  have sh3 := I3.sh
                  obtain ⟨k0, k1, k2, k3, k4, k5, k6, k7, k8⟩ := Pt.cells r3
                  clear r2 s2 b1 r1 I2 b3
                  have t8 : True := trivial
                  have t9 : True := trivial)))
          | (clear t8; refine list_in (fun ⟨_, _, h⟩ => h) _ _ _ (by rfl) ?_
             go_wp2_with (first
               | (clear t9; refine at_look2' 65 75 uSm _ zE (by rfl) _ _ (by rfl) bS _ (by rfl) M2 p.id (by rfl) hwp.i _ eI1 _ eI2 ?_; clear M2 cS2; have t10 : True := trivial)))
          | (clear t10; generalize w2.alloc (.cells #[] 75) = u3 at *; refine list_in (fun ⟨_, _, h⟩ => h) _ _ _ (by rfl) ?_
             have t11 : True := trivial
             have t12 : True := trivial
             go_wp2_with (first
               | (clear t11; refine at_look1 67 79 uSh _ zSh (by rfl) _ _ (by rfl) mS _ (by rfl) sh3 p.at' (by rfl) hwp.s _ eS ?_)
               | (clear t12; refine at_getP0 (by rfl) _ (by rfl) gp (by rfl) p d4 n4 r3 ?_)
               | (go_at_call 30; refine (hMe _).mono ?_; rintro e w9 ⟨rfl, b9⟩
                  have I9 := I3.later b9
                  have r9 := r3.later b9
                  have B9w := bnext B3w b9 (Nat.le_refl _)
                  have M9 := M3.later b9
                  have cl9 := I9.bl.cell 0 _ rfl
                  have t13 : True := trivial))))
        refine fin (v' := v0) (by rw [chS_no hp hw]; exact I9) (Stp.of_below B9w _)
    | true =>
      have hWi := fun (u : World) => with_any (shB (wtP c p.at')) (shK (wtP c p.at')) p d4 n4 u hshl.1 hshl.2 hfp m4.bs.len.symm
      obtain ⟨va, vn, vc, rfl⟩ := I0.ol.shape
      have hvlt : ∀ r, (Value.slice va vn vc).ownBlock = some r → r < W.heap.size := fun r hr => I0.ol.lt hr
      have hbig : (ids c).length + 1 ≤ 1000000 := by rw [ids_len]; omega
      have hzW := I0.z
      have hgp : ∀ gp, W.heap.size ≤ gp → ¬ (gp = gl ∨ (Value.slice va vn vc).ownBlock = some gp) := fun gp h1 e => by
        rcases e with e | e
        · have := A.g4; omega
        · have := hvlt gp e; omega
      have hgb : ∀ gp, W.heap.size ≤ gp → ¬ gp = bS := fun gp h1 e => by have := A.g5; omega
      have hEF : ∀ y, E y → ¬ NeF gl bS mS (.slice va vn vc) y := fun y hy e => by
        have := H.el y hy
        rcases e with e | e | e | e
        · have := A.g4; omega
        · have := A.g5; omega
        · have := A.g6; omega
        · have := I0.nw y e; have := A.g4; omega
      have hbS : ¬ (bS = gl ∨ (Value.slice va vn vc).ownBlock = some bS) := fun e => by
        rcases e with e | e
        · exact I0.bl.notSet hMS e.symm
        · have := I0.nw _ e; have := A.g5; omega
      have hv10 : ∀ {v' : Value}, New w5.heap.size v' → ∀ r, v'.ownBlock = some r → r ≠ bS := fun h r e e2 => by have := h r e; have := A.g5; omega
      have hv11 : ∀ {v' : Value}, New w5.heap.size v' → ∀ r, v'.ownBlock = some r → r ≠ mS := fun h r e e2 => by have := h r e; have := A.g6; omega
      have hab : gl ≠ bS ∧ gg ≠ bS ∧ gS ≠ bS ∧ gM ≠ bS := ⟨I0.bl.notSet hMS, I0.cg.notSet hMS, I0.cS.notSet hMS, I0.cM.notSet hMS⟩
      have hac : gl ≠ mS ∧ gg ≠ mS ∧ gS ≠ mS ∧ gM ≠ mS := ⟨I0.bl.notMap I0.sh, I0.cg.notMap I0.sh, I0.cS.notMap I0.sh, I0.cM.notMap I0.sh⟩
      have hkS := shF_keys c (fun q hq => H.ok.ft q (hcs q hq))
      cases inn with
      | true =>
        clear hsw
        by_cases hwr : p.wr = true
        · gi_wp2_with (first
          | (clear t1; refine list_in (fun ⟨_, _, h⟩ => h) _ _ _ (by rfl) ?_
             go_wp2_with (first
               | (clear t2; refine at_look1 71 40 uPm _ zP (by rfl) _ _ (by rfl) mp f (by rfl) pmW p.id (by rfl) hwp.i _ e4 ?_)
               | (refine at_newP (by rfl) (by rfl) ?_; intro gp w1 a1 a2 r1 b1)
               | (refine at_putP (by rfl) _ _ (by rfl) gp (by rfl) p d4 n4 (by rfl) _ r1 rfl ?_; intro w2 r2 s2
                  have B2 : Below W.heap.size W w2 := ((Stp.of_below b1 (fun _ => False)).next s2 (fun x e => .inr (by omega))).below (Nat.le_refl _) (fun x e => e.elim)
                  have I2 := I0.later B2
                  have cS2 := I2.cS.cell 0 _ rfl
                  have M2 := (hMS.later B2).mp (by omega)
                  have b3 : Below w2.heap.size w2 (w2.alloc (.cells #[] 75)) := (Below.refl _ w2).alloc (Nat.le_refl _) _
                  have I3 := I2.later b3
                  have B3w := bnext B2 b3 (Nat.le_refl _)
                  have M3 := hMS.later B3w
                  have r3 := r2.later b3
                  have cM3 := I3.cM.cell 0 _ rfl
                  have cl3 := I3.bl.cell 0 _ rfl
                  have sh3 := I3.sh
                  obtain ⟨k0, k1, k2, k3, k4, k5, k6, k7, k8⟩ := Pt.cells r3
                  clear r2 s2 b1 r1 I2 b3
                  have t8 : True := trivial
                  have t9 : True := trivial)))
          | (clear t8; refine list_in (fun ⟨_, _, h⟩ => h) _ _ _ (by rfl) ?_
             go_wp2_with (first
               | (clear t9; refine at_look2' 65 75 uSm _ zE (by rfl) _ _ (by rfl) bS _ (by rfl) M2 p.id (by rfl) hwp.i _ eI1 _ eI2 ?_; clear M2 cS2; have t10 : True := trivial)))
          | (clear t10; have t13 : True := trivial; generalize w2.alloc (.cells #[] 75) = u3 at *; refine list_in (fun ⟨_, _, h⟩ => h) _ _ _ (by rfl) ?_
             go_wp2_with fail)
          | (clear t13; refine list_in (fun ⟨_, _, h⟩ => h) _ _ _ (by rfl) ?_
             have bA : Below u3.heap.size u3 (u3.alloc (.cells #[.int .i64 p.id] 3)) := (Below.refl _ _).alloc (Nat.le_refl _) _
             go_wp2_with (first
               | (at_builtin; refine at_appR elI w5.heap.size rfl _ _ (by rfl) (by rfl) (ro_later I3.ol bA) I3.nw (some ⟨u3.heap.size, 0, none⟩) 1 [.int .i64 p.id] (by rfl) (by simp) (fun e => by cases e) (fun ad e => by injection e with e; subst e; exact cell_one_new _ _ _) (by simp [Value.oneCell']) hbig (Nat.le_trans I3.z bA.size) ?_
                  intro v10 w10 hA
                  obtain ⟨xa, xn, xc', rfl⟩ := apd_shape hA
                  obtain ⟨I10, S10, f1, f2⟩ := NeI.tell A I3 bA hA rfl
                  have S10w : Stp (NeF gl bS mS (.slice va vn vc)) W (w10.setCell ⟨gl, 0, none⟩ (.slice xa xn xc')) := (Stp.of_below B3w (NeF gl bS mS (.slice va vn vc))).next S10 (fun y e => .inl (by rcases e with e | e; exact .inl e; exact .inr (.inr (.inr e))))
                  have r10 := r3.step S10 (hgp gp a1)
                  have m10 := m4.step S10w hEF
                  have M10 := M3.step S10 hbS
                  have cS10 := I10.cS.cell 0 _ rfl
                  obtain ⟨_, _, _, _, _, q5, _, _, _⟩ := Pt.cells r10
                  clear hA
                  have t14 : True := trivial)))
          | (clear t14; refine list_in (fun ⟨_, _, h⟩ => h) _ _ _ (by rfl) ?_
             go_wp2_with (first
               | (go_at_call 28; refine (want_any M10 m10.is (by omega)).mono ?_; rintro e w11 ⟨rfl, M11, s11⟩
                  have I11 := I10.want A hnn hnp M11 s11 (hv10 I10.nw) hab
                  have r11 := r10.step s11 (hgb gp a1)
                  have S11 : Stp (NeF gl bS mS (.slice va vn vc)) W w11 := S10w.next s11 (fun y e => .inl (.inr (.inl e)))
                  obtain ⟨_, _, _, _, _, _, _, _, p8⟩ := Pt.cells r11))))
          refine fin (v' := .slice xa xn xc') ?_ S11
          rw [chS_yes hp hw]
          have e9 := shF_same c p hwr
          exact ⟨I11.ms, by rw [e9]; exact I11.sh, I11.bl, I11.ol, I11.nw, I11.cg, I11.cS, I11.cM, I11.b, I11.z⟩
        · have hwr : p.wr = false := by simpa using hwr
          gi_wp2_with (first
          | (clear t1; refine list_in (fun ⟨_, _, h⟩ => h) _ _ _ (by rfl) ?_
             go_wp2_with (first
               | (clear t2; refine at_look1 71 40 uPm _ zP (by rfl) _ _ (by rfl) mp f (by rfl) pmW p.id (by rfl) hwp.i _ e4 ?_)
               | (refine at_newP (by rfl) (by rfl) ?_; intro gp w1 a1 a2 r1 b1)
               | (refine at_putP (by rfl) _ _ (by rfl) gp (by rfl) p d4 n4 (by rfl) _ r1 rfl ?_; intro w2 r2 s2
                  have B2 : Below W.heap.size W w2 := ((Stp.of_below b1 (fun _ => False)).next s2 (fun x e => .inr (by omega))).below (Nat.le_refl _) (fun x e => e.elim)
                  have I2 := I0.later B2
                  have cS2 := I2.cS.cell 0 _ rfl
                  have M2 := (hMS.later B2).mp (by omega)
                  have b3 : Below w2.heap.size w2 (w2.alloc (.cells #[] 75)) := (Below.refl _ w2).alloc (Nat.le_refl _) _
                  have I3 := I2.later b3
                  have B3w := bnext B2 b3 (Nat.le_refl _)
                  have M3 := hMS.later B3w
                  have r3 := r2.later b3
                  have cM3 := I3.cM.cell 0 _ rfl
                  have cl3 := I3.bl.cell 0 _ rfl
                  have sh3 := I3.sh
                  obtain ⟨k0, k1, k2, k3, k4, k5, k6, k7, k8⟩ := Pt.cells r3
                  clear r2 s2 b1 r1 I2 b3
                  have t8 : True := trivial
                  have t9 : True := trivial)))
          | (clear t8; refine list_in (fun ⟨_, _, h⟩ => h) _ _ _ (by rfl) ?_
             go_wp2_with (first
               | (clear t9; refine at_look2' 65 75 uSm _ zE (by rfl) _ _ (by rfl) bS _ (by rfl) M2 p.id (by rfl) hwp.i _ eI1 _ eI2 ?_; clear M2 cS2; have t10 : True := trivial)))
          | (clear t10; have t13 : True := trivial; generalize w2.alloc (.cells #[] 75) = u3 at *; refine list_in (fun ⟨_, _, h⟩ => h) _ _ _ (by rfl) ?_
             go_wp2_with fail)
          | (clear t13; refine list_in (fun ⟨_, _, h⟩ => h) _ _ _ (by rfl) ?_
             have bA : Below u3.heap.size u3 (u3.alloc (.cells #[.int .i64 p.id] 3)) := (Below.refl _ _).alloc (Nat.le_refl _) _
             go_wp2_with (first
               | (at_builtin; refine at_appR elI w5.heap.size rfl _ _ (by rfl) (by rfl) (ro_later I3.ol bA) I3.nw (some ⟨u3.heap.size, 0, none⟩) 1 [.int .i64 p.id] (by rfl) (by simp) (fun e => by cases e) (fun ad e => by injection e with e; subst e; exact cell_one_new _ _ _) (by simp [Value.oneCell']) hbig (Nat.le_trans I3.z bA.size) ?_
                  intro v10 w10 hA
                  obtain ⟨xa, xn, xc', rfl⟩ := apd_shape hA
                  obtain ⟨I10, S10, f1, f2⟩ := NeI.tell A I3 bA hA rfl
                  have S10w : Stp (NeF gl bS mS (.slice va vn vc)) W (w10.setCell ⟨gl, 0, none⟩ (.slice xa xn xc')) := (Stp.of_below B3w (NeF gl bS mS (.slice va vn vc))).next S10 (fun y e => .inl (by rcases e with e | e; exact .inl e; exact .inr (.inr (.inr e))))
                  have r10 := r3.step S10 (hgp gp a1)
                  have m10 := m4.step S10w hEF
                  have M10 := M3.step S10 hbS
                  have cS10 := I10.cS.cell 0 _ rfl
                  obtain ⟨_, _, _, _, _, q5, _, _, _⟩ := Pt.cells r10
                  clear hA
                  have t14 : True := trivial)))
          | (clear t14; refine list_in (fun ⟨_, _, h⟩ => h) _ _ _ (by rfl) ?_
             go_wp2_with (first
               | (go_at_call 28; refine (want_any M10 m10.is (by omega)).mono ?_; rintro e w11 ⟨rfl, M11, s11⟩
                  have I11 := I10.want A hnn hnp M11 s11 (hv10 I10.nw) hab
                  have r11 := r10.step s11 (hgb gp a1)
                  have S11 : Stp (NeF gl bS mS (.slice va vn vc)) W w11 := S10w.next s11 (fun y e => .inl (.inr (.inl e)))
                  obtain ⟨_, _, _, _, _, _, _, _, p8⟩ := Pt.cells r11))))
          have cM11 := I11.cM.cell 0 _ rfl
          have hx2 := m10.bs.len
          refine in_region_last (S := fun u => Below w11.heap.size w11 u) _ _ (fun ⟨_, _, h⟩ => h) (by rfl) (by simp only [List.pop_toArray, List.dropLast_cons_cons, List.dropLast_singleton]; rfl) (by simp only [List.back?_toArray, List.getLast?_cons_cons, List.getLast?_singleton]; rfl) (by kernel_rfl) (by kernel_rfl) (Below.refl _ _).drew (fun hHeld => ?_)
          refine wpAnyH_take (i := 0) (oi := { dst := some 61, op := Op.load 67 (Operand.tmp 6), type := 67, pos := _, after := #[], guard := none }) (v := .map (some mS)) rfl (by kernel_rfl) (by kernel_rfl) (by kernel_rfl) (fun _ _ _ h => h) (Or.inl ⟨by rfl, ?_⟩) hHeld ?_
          · intro u hu
            have x1 := (I11.cM.later hu).cell 0 _ rfl; go_simp
          try simp only [Act.put, List.setIfInBounds_toArray, List.set_cons_zero, List.set_cons_succ]
          refine wpAnyH_take (i := 1) (oi := { dst := some 62, op := Op.fieldAddr 40 (Operand.tmp 10) 1, type := 0, pos := _, after := #[], guard := none }) (v := .pointer (some ⟨gp, 1, none⟩)) rfl (by kernel_rfl) (by kernel_rfl) (by kernel_rfl) (fun _ _ _ h => h) (Or.inl ⟨by rfl, ?_⟩) hHeld ?_
          · intro u hu
            go_simp
          try simp only [Act.put, List.setIfInBounds_toArray, List.set_cons_zero, List.set_cons_succ]
          refine wpAnyH_take (i := 2) (oi := { dst := some 63, op := Op.load 3 (Operand.tmp 62), type := 3, pos := _, after := #[{ on := 1, ground := Ground.data }], guard := none }) (v := .int .i64 p.at') rfl (by kernel_rfl) (by kernel_rfl) (by kernel_rfl) (fun _ _ _ h => h) (Or.inl ⟨by rfl, ?_⟩) hHeld ?_
          · intro u hu
            have x1 := (r11.later hu).cell 1 _ rfl; go_simp
          try simp only [Act.put, List.setIfInBounds_toArray, List.set_cons_zero, List.set_cons_succ]
          refine wpAnyH_take (i := 3) (oi := { dst := some 64, op := Op.load 67 (Operand.tmp 6), type := 67, pos := _, after := #[], guard := none }) (v := .map (some mS)) rfl (by kernel_rfl) (by kernel_rfl) (by kernel_rfl) (fun _ _ _ h => h) (Or.inl ⟨by rfl, ?_⟩) hHeld ?_
          · intro u hu
            have x1 := (I11.cM.later hu).cell 0 _ rfl; go_simp
          try simp only [Act.put, List.setIfInBounds_toArray, List.set_cons_zero, List.set_cons_succ]
          refine wpAnyH_take (i := 4) (oi := { dst := some 65, op := Op.fieldAddr 40 (Operand.tmp 10) 1, type := 0, pos := _, after := #[], guard := none }) (v := .pointer (some ⟨gp, 1, none⟩)) rfl (by kernel_rfl) (by kernel_rfl) (by kernel_rfl) (fun _ _ _ h => h) (Or.inl ⟨by rfl, ?_⟩) hHeld ?_
          · intro u hu
            go_simp
          try simp only [Act.put, List.setIfInBounds_toArray, List.set_cons_zero, List.set_cons_succ]
          refine wpAnyH_take (i := 5) (oi := { dst := some 66, op := Op.load 3 (Operand.tmp 65), type := 3, pos := _, after := #[{ on := 4, ground := Ground.data }], guard := none }) (v := .int .i64 p.at') rfl (by kernel_rfl) (by kernel_rfl) (by kernel_rfl) (fun _ _ _ h => h) (Or.inl ⟨by rfl, ?_⟩) hHeld ?_
          · intro u hu
            have x1 := (r11.later hu).cell 1 _ rfl; go_simp
          try simp only [Act.put, List.setIfInBounds_toArray, List.set_cons_zero, List.set_cons_succ]
          refine wpAnyH_take (i := 6) (oi := { dst := some 67, op := Op.lookup 67 (Operand.tmp 64) (Operand.tmp 66) false, type := 79, pos := _, after := #[{ on := 3, ground := Ground.data }, { on := 5, ground := Ground.data }], guard := none }) (v := .agg (shC (shB (wtP c p.at')) (shK (wtP c p.at'))).toArray) rfl (by kernel_rfl) (by kernel_rfl) (by kernel_rfl) (fun _ _ _ h => h)
            (yields_M' 67 79 uSh _ zSh (by rfl) _ _ (by rfl) mS _ (by rfl) p.at' (by rfl) hwp.s (fun u hu => I11.sh.later hu) _ eS) hHeld ?_
          try simp only [Act.put, List.setIfInBounds_toArray, List.set_cons_zero, List.set_cons_succ]
          refine wpAnyH_take (i := 7) (oi := { dst := some 68, op := Op.load 40 (Operand.tmp 10), type := 40, pos := _, after := #[], guard := none }) (v := .agg (p.cs d4 n4).toArray) rfl (by kernel_rfl) (by kernel_rfl) (by kernel_rfl) (fun _ _ _ h => h)
            (yields_P (by rfl) _ (by rfl) gp (by rfl) p d4 n4 (fun u hu => r11.later hu)) hHeld ?_
          try simp only [Act.put, List.setIfInBounds_toArray, List.set_cons_zero, List.set_cons_succ]
          refine wpAnyH_ready (rs := [8]) (by kernel_rfl) (by simp) ?_
          refine (AllReadyH.cons (o := { dst := some 69, op := Op.call { callee := Callee.value (Operand.func 31), args := #[Operand.tmp 67, Operand.tmp 68], argTypes := #[79, 40] }, type := 79, pos := _, after := #[{ on := 6, ground := Ground.data }, { on := 7, ground := Ground.data }], guard := none }) rfl (fun K hK => ?_) AllReadyH.nil)
          go_simp
          refine (hWi _).mono ?_
          rintro e w12 ⟨rfl, b12⟩
          try go_wp2_with fail
          refine hK.out _ _ (bnext hHeld b12 (Nat.le_refl _)) (fun hHeld => ?_)
          clear hK K
          try simp only [Act.put, List.setIfInBounds_toArray, List.set_cons_zero, List.set_cons_succ]
          refine wpAnyH_done (by kernel_rfl) ?_ _
          show wpList _ _ _ [_] _ _
          have I12 := I11.later hHeld
          refine at_updM 67 79 uSh (by rfl) _ _ _ (by rfl) mS _ (by rfl) p.at' (by rfl) (.agg (shC (oB (shB (wtP c p.at')) p) (oK (shK (wtP c p.at')) p)).toArray) (by rfl) I12.sh hkS hwp.s ?_
          intro w13 m13 s13
          rw [show oB (shB (wtP c p.at')) p = shB (wtP c p.at' ++ [p]) from (shB_snoc _ _).symm, show oK (shK (wtP c p.at')) p = shK (wtP c p.at' ++ [p]) from (shK_snoc _ _).symm, ← shF_put c p hwr] at m13
          have I13 := I12.shade A m13 s13 (hv11 I10.nw) hac
          have S13 : Stp (NeF gl bS mS (.slice va vn vc)) W w13 := (S11.next (Stp.of_below hHeld (fun _ => False)) (fun y e => e.elim)).next s13 (fun y e => .inl (.inr (.inr (.inl e))))
          simp only [Act.put]
          go_wp2_with fail
          refine fin (v' := .slice xa xn xc') ?_ S13
          rw [chS_yes hp hw]
          exact I13
      | false =>
        have hsw' : p.wr = false ∧ mt = true := by
          rw [hw] at hsw
          have h9 := hsw.symm
          simp only [Bool.false_or, Bool.and_eq_true, Bool.not_eq_true'] at h9
          exact h9
        obtain ⟨hwr, rfl⟩ := hsw'
        clear hsw
        gi_wp2_with (first
          | (clear t1; refine list_in (fun ⟨_, _, h⟩ => h) _ _ _ (by rfl) ?_
             go_wp2_with (first
               | (clear t2; refine at_look1 71 40 uPm _ zP (by rfl) _ _ (by rfl) mp f (by rfl) pmW p.id (by rfl) hwp.i _ e4 ?_)
               | (refine at_newP (by rfl) (by rfl) ?_; intro gp w1 a1 a2 r1 b1)
               | (refine at_putP (by rfl) _ _ (by rfl) gp (by rfl) p d4 n4 (by rfl) _ r1 rfl ?_; intro w2 r2 s2
                  have B2 : Below W.heap.size W w2 := ((Stp.of_below b1 (fun _ => False)).next s2 (fun x e => .inr (by omega))).below (Nat.le_refl _) (fun x e => e.elim)
                  have I2 := I0.later B2
                  have cS2 := I2.cS.cell 0 _ rfl
                  have M2 := (hMS.later B2).mp (by omega)
                  have b3 : Below w2.heap.size w2 (w2.alloc (.cells #[] 75)) := (Below.refl _ w2).alloc (Nat.le_refl _) _
                  have I3 := I2.later b3
                  have B3w := bnext B2 b3 (Nat.le_refl _)
                  have M3 := hMS.later B3w
                  have r3 := r2.later b3
                  have cM3 := I3.cM.cell 0 _ rfl
                  have cl3 := I3.bl.cell 0 _ rfl
                  have sh3 := I3.sh
                  obtain ⟨k0, k1, k2, k3, k4, k5, k6, k7, k8⟩ := Pt.cells r3
                  clear r2 s2 b1 r1 I2 b3
                  have t8 : True := trivial
                  have t9 : True := trivial)))
          | (clear t8; refine list_in (fun ⟨_, _, h⟩ => h) _ _ _ (by rfl) ?_
             go_wp2_with (first
               | (clear t9; refine at_look2' 65 75 uSm _ zE (by rfl) _ _ (by rfl) bS _ (by rfl) M2 p.id (by rfl) hwp.i _ eI1 _ eI2 ?_; clear M2 cS2; have t10 : True := trivial)))
          | (clear t10; generalize w2.alloc (.cells #[] 75) = u3 at *; refine list_in (fun ⟨_, _, h⟩ => h) _ _ _ (by rfl) ?_
             have t11 : True := trivial
             have t12 : True := trivial
             go_wp2_with (first
               | (clear t11; refine at_look1 67 79 uSh _ zSh (by rfl) _ _ (by rfl) mS _ (by rfl) sh3 p.at' (by rfl) hwp.s _ eS ?_)
               | (clear t12; refine at_getP0 (by rfl) _ (by rfl) gp (by rfl) p d4 n4 r3 ?_)
               | (go_at_call 30; refine (hMe _).mono ?_; rintro e w9 ⟨rfl, b9⟩
                  have I9 := I3.later b9
                  have r9 := r3.later b9
                  have B9w := bnext B3w b9 (Nat.le_refl _)
                  have M9 := M3.later b9
                  have cl9 := I9.bl.cell 0 _ rfl
                  have t13 : True := trivial)))
          | (clear t13; refine list_in (fun ⟨_, _, h⟩ => h) _ _ _ (by rfl) ?_
             have bA : Below w9.heap.size w9 (w9.alloc (.cells #[.int .i64 p.id] 3)) := (Below.refl _ _).alloc (Nat.le_refl _) _
             go_wp2_with (first
               | (at_builtin; refine at_appR elI w5.heap.size rfl _ _ (by rfl) (by rfl) (ro_later I9.ol bA) I9.nw (some ⟨w9.heap.size, 0, none⟩) 1 [.int .i64 p.id] (by rfl) (by simp) (fun e => by cases e) (fun ad e => by injection e with e; subst e; exact cell_one_new _ _ _) (by simp [Value.oneCell']) hbig (Nat.le_trans I9.z bA.size) ?_
                  intro v10 w10 hA
                  obtain ⟨xa, xn, xc', rfl⟩ := apd_shape hA
                  obtain ⟨I10, S10, f1, f2⟩ := NeI.tell A I9 bA hA rfl
                  have S10w : Stp (NeF gl bS mS (.slice va vn vc)) W (w10.setCell ⟨gl, 0, none⟩ (.slice xa xn xc')) := (Stp.of_below B9w (NeF gl bS mS (.slice va vn vc))).next S10 (fun y e => .inl (by rcases e with e | e; exact .inl e; exact .inr (.inr (.inr e))))
                  have r10 := r9.step S10 (hgp gp a1)
                  have m10 := m4.step S10w hEF
                  have M10 := M9.step S10 hbS
                  have cS10 := I10.cS.cell 0 _ rfl
                  obtain ⟨_, _, _, _, _, q5, _, _, _⟩ := Pt.cells r10
                  clear hA
                  have t14 : True := trivial)))
          | (clear t14; refine list_in (fun ⟨_, _, h⟩ => h) _ _ _ (by rfl) ?_
             go_wp2_with (first
               | (go_at_call 28; refine (want_any M10 m10.is (by omega)).mono ?_; rintro e w11 ⟨rfl, M11, s11⟩
                  have I11 := I10.want A hnn hnp M11 s11 (hv10 I10.nw) hab
                  have r11 := r10.step s11 (hgb gp a1)
                  have S11 : Stp (NeF gl bS mS (.slice va vn vc)) W w11 := S10w.next s11 (fun y e => .inl (.inr (.inl e)))
                  obtain ⟨_, _, _, _, _, _, _, _, p8⟩ := Pt.cells r11))))
        have cM11 := I11.cM.cell 0 _ rfl
        have hx2 := m10.bs.len
        refine in_region_last (S := fun u => Below w11.heap.size w11 u) _ _ (fun ⟨_, _, h⟩ => h) (by rfl) (by simp only [List.pop_toArray, List.dropLast_cons_cons, List.dropLast_singleton]; rfl) (by simp only [List.back?_toArray, List.getLast?_cons_cons, List.getLast?_singleton]; rfl) (by kernel_rfl) (by kernel_rfl) (Below.refl _ _).drew (fun hHeld => ?_)
        refine wpAnyH_take (i := 0) (oi := { dst := some 61, op := Op.load 67 (Operand.tmp 6), type := 67, pos := _, after := #[], guard := none }) (v := .map (some mS)) rfl (by kernel_rfl) (by kernel_rfl) (by kernel_rfl) (fun _ _ _ h => h) (Or.inl ⟨by rfl, ?_⟩) hHeld ?_
        · intro u hu
          have x1 := (I11.cM.later hu).cell 0 _ rfl; go_simp
        try simp only [Act.put, List.setIfInBounds_toArray, List.set_cons_zero, List.set_cons_succ]
        refine wpAnyH_take (i := 1) (oi := { dst := some 62, op := Op.fieldAddr 40 (Operand.tmp 10) 1, type := 0, pos := _, after := #[], guard := none }) (v := .pointer (some ⟨gp, 1, none⟩)) rfl (by kernel_rfl) (by kernel_rfl) (by kernel_rfl) (fun _ _ _ h => h) (Or.inl ⟨by rfl, ?_⟩) hHeld ?_
        · intro u hu
          go_simp
        try simp only [Act.put, List.setIfInBounds_toArray, List.set_cons_zero, List.set_cons_succ]
        refine wpAnyH_take (i := 2) (oi := { dst := some 63, op := Op.load 3 (Operand.tmp 62), type := 3, pos := _, after := #[{ on := 1, ground := Ground.data }], guard := none }) (v := .int .i64 p.at') rfl (by kernel_rfl) (by kernel_rfl) (by kernel_rfl) (fun _ _ _ h => h) (Or.inl ⟨by rfl, ?_⟩) hHeld ?_
        · intro u hu
          have x1 := (r11.later hu).cell 1 _ rfl; go_simp
        try simp only [Act.put, List.setIfInBounds_toArray, List.set_cons_zero, List.set_cons_succ]
        refine wpAnyH_take (i := 3) (oi := { dst := some 64, op := Op.load 67 (Operand.tmp 6), type := 67, pos := _, after := #[], guard := none }) (v := .map (some mS)) rfl (by kernel_rfl) (by kernel_rfl) (by kernel_rfl) (fun _ _ _ h => h) (Or.inl ⟨by rfl, ?_⟩) hHeld ?_
        · intro u hu
          have x1 := (I11.cM.later hu).cell 0 _ rfl; go_simp
        try simp only [Act.put, List.setIfInBounds_toArray, List.set_cons_zero, List.set_cons_succ]
        refine wpAnyH_take (i := 4) (oi := { dst := some 65, op := Op.fieldAddr 40 (Operand.tmp 10) 1, type := 0, pos := _, after := #[], guard := none }) (v := .pointer (some ⟨gp, 1, none⟩)) rfl (by kernel_rfl) (by kernel_rfl) (by kernel_rfl) (fun _ _ _ h => h) (Or.inl ⟨by rfl, ?_⟩) hHeld ?_
        · intro u hu
          go_simp
        try simp only [Act.put, List.setIfInBounds_toArray, List.set_cons_zero, List.set_cons_succ]
        refine wpAnyH_take (i := 5) (oi := { dst := some 66, op := Op.load 3 (Operand.tmp 65), type := 3, pos := _, after := #[{ on := 4, ground := Ground.data }], guard := none }) (v := .int .i64 p.at') rfl (by kernel_rfl) (by kernel_rfl) (by kernel_rfl) (fun _ _ _ h => h) (Or.inl ⟨by rfl, ?_⟩) hHeld ?_
        · intro u hu
          have x1 := (r11.later hu).cell 1 _ rfl; go_simp
        try simp only [Act.put, List.setIfInBounds_toArray, List.set_cons_zero, List.set_cons_succ]
        refine wpAnyH_take (i := 6) (oi := { dst := some 67, op := Op.lookup 67 (Operand.tmp 64) (Operand.tmp 66) false, type := 79, pos := _, after := #[{ on := 3, ground := Ground.data }, { on := 5, ground := Ground.data }], guard := none }) (v := .agg (shC (shB (wtP c p.at')) (shK (wtP c p.at'))).toArray) rfl (by kernel_rfl) (by kernel_rfl) (by kernel_rfl) (fun _ _ _ h => h)
          (yields_M' 67 79 uSh _ zSh (by rfl) _ _ (by rfl) mS _ (by rfl) p.at' (by rfl) hwp.s (fun u hu => I11.sh.later hu) _ eS) hHeld ?_
        try simp only [Act.put, List.setIfInBounds_toArray, List.set_cons_zero, List.set_cons_succ]
        refine wpAnyH_take (i := 7) (oi := { dst := some 68, op := Op.load 40 (Operand.tmp 10), type := 40, pos := _, after := #[], guard := none }) (v := .agg (p.cs d4 n4).toArray) rfl (by kernel_rfl) (by kernel_rfl) (by kernel_rfl) (fun _ _ _ h => h)
          (yields_P (by rfl) _ (by rfl) gp (by rfl) p d4 n4 (fun u hu => r11.later hu)) hHeld ?_
        try simp only [Act.put, List.setIfInBounds_toArray, List.set_cons_zero, List.set_cons_succ]
        refine wpAnyH_ready (rs := [8]) (by kernel_rfl) (by simp) ?_
        refine (AllReadyH.cons (o := { dst := some 69, op := Op.call { callee := Callee.value (Operand.func 31), args := #[Operand.tmp 67, Operand.tmp 68], argTypes := #[79, 40] }, type := 79, pos := _, after := #[{ on := 6, ground := Ground.data }, { on := 7, ground := Ground.data }], guard := none }) rfl (fun K hK => ?_) AllReadyH.nil)
        go_simp
        refine (hWi _).mono ?_
        rintro e w12 ⟨rfl, b12⟩
        try go_wp2_with fail
        refine hK.out _ _ (bnext hHeld b12 (Nat.le_refl _)) (fun hHeld => ?_)
        clear hK K
        try simp only [Act.put, List.setIfInBounds_toArray, List.set_cons_zero, List.set_cons_succ]
        refine wpAnyH_done (by kernel_rfl) ?_ _
        show wpList _ _ _ [_] _ _
        have I12 := I11.later hHeld
        refine at_updM 67 79 uSh (by rfl) _ _ _ (by rfl) mS _ (by rfl) p.at' (by rfl) (.agg (shC (oB (shB (wtP c p.at')) p) (oK (shK (wtP c p.at')) p)).toArray) (by rfl) I12.sh hkS hwp.s ?_
        intro w13 m13 s13
        rw [show oB (shB (wtP c p.at')) p = shB (wtP c p.at' ++ [p]) from (shB_snoc _ _).symm, show oK (shK (wtP c p.at')) p = shK (wtP c p.at' ++ [p]) from (shK_snoc _ _).symm, ← shF_put c p hwr] at m13
        have I13 := I12.shade A m13 s13 (hv11 I10.nw) hac
        have S13 : Stp (NeF gl bS mS (.slice va vn vc)) W w13 := (S11.next (Stp.of_below hHeld (fun _ => False)) (fun y e => e.elim)).next s13 (fun y e => .inl (.inr (.inr (.inl e))))
        simp only [Act.put]
        go_wp2_with fail
        refine fin (v' := .slice xa xn xc') ?_ S13
        rw [chS_yes hp hw]
        exact I13
  case done =>
    rintro D ys W hD rfl ⟨v, I⟩ hK
    have e1 := chL_all (is := is) (l := Z.l) (fun j => if h : j < Z.l.length then ⟨j, h⟩ else ⟨0, hne⟩) (fun j hj => by simp [hj]) Z.l.length 0 (by omega)
    rw [e1, List.drop_zero] at I
    obtain ⟨va, vn, vc, rfl⟩ := I.ol.shape
    have cl := I.bl.cell 0 _ rfl
    have hnl := nd_len is Z.l
    have hR := reverse_own I.ol (by rw [ids_len, List.length_reverse]; omega)
    rw [ids_reverse, List.reverse_reverse] at hR
    have hgl : ∀ r, (Value.slice va vn vc).ownBlock = some r → ¬ r = gl := fun r e e2 => by have := I.nw r e; have := A.g4; omega
    go_wp2_with (first
      | (go_at_call 32; refine hR.mono ?_; rintro e w6 ⟨rfl, o6, s6⟩
         have cl6 := (I.bl.step s6 (fun e => hgl _ e rfl)).cell 0 _ rfl
         have hK6 : w6.heap[D]? = some (.deferred (some [])) := by
           have hlt := (Array.getElem?_eq_some_iff.1 hK).1
           rw [s6.block D hlt (fun e => ?_)]
           · exact hK
           · rcases I.ol.2 with ⟨e1, _⟩ | ⟨g', c', cur, e1, e2, e3, _⟩
             · rw [e1] at e; cases e
             · rw [e1] at e
               obtain rfl := ob_eq' e
               rw [e3] at hK; cases hK))
    refine ⟨by simp, .inl ⟨_, _, rfl, run_takeDeferred hK6, ?_⟩⟩
    have B6 : Below w.heap.size w w6 := ((Stp.of_below I.b (fun _ => False)).next s6 (fun x e => .inr (by have := I.nw x e; have := A.g4; omega))).below (Nat.le_refl _) (fun x e => e.elim)
    refine ⟨_, results_tmp rfl _ _ _, .slice va vn vc, rfl, ownsRow_putObj o6 _ hK6 rfl, fun r e => ?_, B6.trans (belowK_b (w := w) (Nat.le_refl _) w6 D _ _ (by have := B5.size; omega) hK6 rfl rfl)⟩
    have := I.nw r e
    have := A.g4
    omega
end Go.Proofs.Ytdfifneikmlmoaa
namespace Go.Proofs.Ytdfifneikmlmoaa
open Go.ChangeShapes Go.WideShapes Go.ChangeAt Go.RowKit Go.Shelf
set_option linter.unusedVariables false
set_option linter.unusedSimpArgs false
attribute [local go_sem] Oper.semAt_some

theorem OwV.zero {w : World} {v : Value} (h : OwV w v []) : ∃ a c, v = .slice a 0 c := by
  rcases h.row with ⟨e, _⟩ | ⟨g, cap, cur, e, _⟩
  · exact ⟨_, _, e⟩
  · exact ⟨_, _, e⟩
set_option maxRecDepth 100000 in
set_option maxHeartbeats 4000000 in
theorem needed_zero {w : World} {g mp mw : Nat} {f fw : Int → Option Value} {Z : GZ} {E F : Nat → Prop} (H : Gr w g mp mw f fw Z E F) {s : Sv} {l : List Int} (hs : InsS w s l) (hl : l.length ≤ 1000) (hz : Z.l = []) :
    Calls Try.prog 8 #[.pointer (some ⟨g, 0, none⟩), .slice s.a s.n s.c] w fun e w' => e = .returned (.slice none 0 0) ∧ Below w.heap.size w w' := by
  have hmm := @run_makeMap Try.prog
  refine (callsIn_wide (n := 6)).1 ?_
  refine callsIn_of_wp_marks Try.func8 rfl trivial ?_ rfl
  simp only [Try.ntmps8, List.size_toArray, List.length_cons, List.length_nil, Nat.reduceAdd, Nat.reduceSub, Array.replicate_succ, Array.replicate_zero, List.push_toArray, List.append_toArray, List.nil_append, List.cons_append]
  refine wpIn_wide.2 ?_
  have bA := wA_b w (.pointer (some ⟨g, 0, none⟩))
  have hW := want_any (wA_m w (.pointer (some ⟨g, 0, none⟩))) (hs.later bA) (by omega)
  have gA := wA_g w (.pointer (some ⟨g, 0, none⟩)) rfl
  unfold wA at hW
  go_wp2_with (first
    | (go_at_call 28; refine hW.mono ?_; rintro e w3 ⟨rfl, M3, s3⟩; clear hW
       have B3 : Below w.heap.size w w3 := ((Stp.of_below bA (fun _ => False)).next s3 (fun x e => .inr (by omega))).below (Nat.le_refl _) (fun x e => e.elim)
       have g3 := gA.step s3 (by omega)
       have bB := wB_b w3
       have gB := (g3.later bB).cell 0 _ rfl
       have lB := wB_l w3
       have B4 := bnext B3 bB (Nat.le_refl _)
       have hAll := all_any (H.later B4)
       rw [hz] at hAll
       unfold wB at gB hAll)
    | (go_at_call 11; refine hAll.mono ?_; rintro e w4 ⟨va, rfl, o4, n4, b4⟩; clear hAll
       obtain ⟨xa, xc, rfl⟩ := OwV.zero o4)
    | (go_at_call 29; refine (back_any _ _ _ _).mono ?_; rintro e w5 ⟨bx, rfl, h5, r5, b5⟩
       have l5 := (lB.later b4).later b5)
    )
  refine (wpIn_wide (n := 6)).1 ?_
  have b4' : Below (wB w3).heap.size (wB w3) w4 := b4
  have z4 := b4'.size
  have z5 := b5.size
  have zB := bB.size
  have lt5 := l5.lt
  have B5 : Below w.heap.size w w5 := bnext (bnext B4 b4' (Nat.le_refl _)) b5 (Nat.le_refl _)
  refine wpIn_rangeFunc_ownG (F := Fence.wide) (n := 6) (w0 := w5) rfl (by omega) (gf := 55) (lb := #[.pointer (some ⟨bx, 0, none⟩)]) rfl trivial (enters_of Try.func55 (by kernel_rfl) rfl)
    (back0_stops 5 r5) (fun _ _ => trivial) (fun _ _ _ _ _ _ _ _ => trivial) (Below.refl _ _) (fun _ => rfl)
    (fun _ W => Cs W (w3.heap.size + 1 + 1) [.slice none 0 0] ∧ Below w.heap.size w W)
    (fun _ _ _ => False)
    (ownFrom_stp fun s W W' h k => ⟨h.1.step k (by omega), h.2.trans (k.below (Nat.le_trans (Nat.le_refl _) h.2.size) (fun x hx => Nat.le_trans B5.size hx))⟩)
    (fun _ _ _ _ _ hs _ _ => hs)
    ⟨l5, B5⟩ ?a1 ?assign ?body ?done ?stop
  case assign =>
    intro l x W K hK
    gi_wp2
    exact hK
  case body => exact fun l pre x W _ hlt => absurd hlt (Nat.not_lt_zero _)
  case stop => exact fun D c pre W _ _ h _ => h.elim
  case done =>
    rintro D ys W hD rfl ⟨hC, hB⟩ hK
    have c7 := hC.cell 0 _ rfl
    go_wp2_with (first | (go_at_call 32; refine (reverse_none _).mono ?_; rintro e w6 ⟨rfl, rfl⟩))
    refine ⟨by simp, .inl ⟨_, _, rfl, run_takeDeferred hK, ?_⟩⟩
    exact ⟨_, results_tmp rfl _ _ _, rfl, hB.trans (belowK_b (w := w) (Nat.le_refl _) W D _ _ (by have := B5.size; omega) hK rfl rfl)⟩
theorem needed_both {w : World} {g mp mw : Nat} {f fw : Int → Option Value} {Z : GZ} {E F : Nat → Prop} (H : Gr w g mp mw f fw Z E F) {s : Sv} {is : List Int} (hs : InsS w s is) (hl : is.length ≤ 1000) (hzl : Z.l.length ≤ 100) (hn6 : ∀ p ∈ Z.l, p.needs.length ≤ 6) :
    Calls Try.prog 8 #[.pointer (some ⟨g, 0, none⟩), .slice s.a s.n s.c] w fun e w' => ∃ v, e = .returned v ∧ OwV w' v (ids (nd is Z.l)) ∧ New w.heap.size v ∧ Below w.heap.size w w' := by
  by_cases h : 0 < Z.l.length
  · exact needed_any H hs hl hzl hn6 h
  · have hz : Z.l = [] := List.eq_nil_of_length_eq_zero (by omega)
    refine (needed_zero H hs hl hz).mono ?_
    rintro e w' ⟨rfl, b⟩
    exact ⟨_, rfl, by rw [hz]; exact OwV.nil _, (fun r e => by cases e), b⟩
end Go.Proofs.Ytdfifneikmlmoaa
namespace Go.Proofs.Ytdfifneikmlmoaa
open Go.ChangeShapes Go.WideShapes Go.ChangeAt Go.RowKit
set_option linter.unusedVariables false
set_option linter.unusedSimpArgs false

/-- A batch's cells. -/
def btc (v : Value) (b : Bool) : List Value := [v, .bool b]
theorem btc_one {v : Value} (h : v.oneCell' = true) (b : Bool) : ∀ u ∈ btc v b, u.oneCell' = true := by
  intro u hu; unfold btc at hu; simp at hu
  rcases hu with rfl | rfl
  · exact h
  · rfl
theorem srtBt : Srt 36 2 (btc (.slice none 0 0) false) :=
  ⟨⟨_, Try.underlying36, rfl⟩, by kernel_rfl, fun w => (zero_of_info (v := .agg (btc (.slice none 0 0) false).toArray) (n := 2) (by kernel_rfl)).1 w, rfl, btc_one rfl _⟩
theorem frS_no {L : List Int} {l : List Pt} (h : L.length ≠ 1) : frS L l = false := by unfold frS; simp [h]
theorem frS_yes {l : List Pt} (hs : Rise l) (x : Int) : frS [x] l = !((ids (thP l (·.wr))).any fun i => decide ((gt l i).at' ≠ x)) := by
  unfold frS
  have e : ((ids (thP l (·.wr))).any fun i => decide ((gt l i).at' ≠ x)) = (thP l (·.wr)).any fun p => decide (p.at' ≠ x) := by
    unfold ids
    rw [List.any_map, Bool.eq_iff_iff, List.any_eq_true, List.any_eq_true]
    have hg : ∀ p ∈ thP l (·.wr), gt l p.id = p := fun p hp => by unfold gt; rw [fnd_of hs (List.mem_filter.1 hp).1]; rfl
    constructor
    · rintro ⟨p, h1, h2⟩; refine ⟨p, h1, ?_⟩; simp only [Function.comp_apply, hg p h1] at h2; exact h2
    · rintro ⟨p, h1, h2⟩; refine ⟨p, h1, ?_⟩; simp only [Function.comp_apply, hg p h1]; exact h2
  rw [e, List.not_any_eq_all_not]
  simp
theorem enter_alone : ∀ args w, (callFunc 70 args).run Try.prog w = .ok (.enter 70 args) w := enters_of Try.func70 (by kernel_rfl) rfl
set_option maxRecDepth 100000 in
set_option maxHeartbeats 2000000 in
theorem tells_alone {w : World} {g mp mw : Nat} {f fw : Int → Option Value} {Z : GZ} {E F : Nat → Prop} (H : Gr w g mp mw f fw Z E F) (hnl : ∀ p ∈ Z.l, p.needs.length ≤ 100000) {s : Sv} {x : Int} (hs : InsS w s [x]) (g2 g3 : Nat) (h2 : w.cell? ⟨g2, 0, none⟩ = some (.pointer (some ⟨g, 0, none⟩))) (h3 : w.cell? ⟨g3, 0, none⟩ = some (.slice s.a s.n s.c)) (r : List Int) (hr : ∀ i ∈ r, wfi i) :
    TellsN w 70 #[.pointer (some ⟨g2, 0, none⟩), .pointer (some ⟨g3, 0, none⟩)] r (fun i => decide ((gt Z.l i).at' ≠ x)) := by
  intro u i hi hu
  have c2 := (Stp.of_below hu (fun _ => False)).cell h2 id
  have hG := get_any (H.later hu) i (hr i hi) hnl
  have hsu := hs.later hu
  have hsn : s.n = 1 := hs.i.len.symm
  obtain ⟨sb, so, se, hcell⟩ := hs.i.cell (by omega)
  obtain ⟨sa, sn, sc⟩ := s
  simp only at hsn se
  subst se
  subst hsn
  have c30 := h3
  have cx := hcell 0 (by simp)
  simp only [Nat.add_zero, List.getD_cons_zero] at cx
  show Calls Try.prog _ #[.int .i64 i, .pointer (some ⟨g2, 0, none⟩), .pointer (some ⟨g3, 0, none⟩)] u fun e u' => e = .returned (.bool (decide ((gt Z.l i).at' ≠ x))) ∧ Below u.heap.size u u'
  generalize gt Z.l i = p at *
  generalize gE Z.l i = ge at *
  have t2 : True := trivial
  have t3 : True := trivial
  have hpost : Hid ((decide (p.at' ≠ x)) = (p.at' != x)) := by show _ = _; rw [Bool.eq_iff_iff]; simp
  generalize decide (p.at' ≠ x) = bb at *
  clear hcell hs hsu
  go_enter Try.func70, Try.ntmps70
  go_wp2_with (first
    | (go_at_call 14; refine hG.mono ?_; rintro e w4 ⟨d, n, rfl, m4, b4⟩; clear hG)
    | (clear t2; refine at_newP (by rfl) (by rfl) ?_; intro g5 w5 a5 a6 r5 b5)
    | (clear t3; refine at_putP (by rfl) _ _ (by rfl) g5 (by rfl) p d n (by rfl) _ r5 rfl ?_; intro w6 r6 s6))
  have B6 : Below u.heap.size u w6 := ((Stp.of_below (bnext b4 b5 (Nat.le_refl _)) (fun _ => False)).next s6 (fun x e => .inr (by have := b4.size; omega))).below (Nat.le_refl _) (fun x e => e.elim)
  have B60 := bnext hu B6 (Nat.le_refl _)
  refine wp_region_held_drew (S := fun v => Below w6.heap.size w6 v) (by kernel_rfl) (Below.refl _ _).drew (fun hHeld => ?_)
  refine wpAnyH_take (i := 0) (oi := { dst := some 13, op := Op.fieldAddr 40 (Operand.tmp 5) 1, type := 0, pos := _, after := #[], guard := none }) (v := .pointer (some ⟨g5, 1, none⟩)) rfl (by kernel_rfl) (by kernel_rfl) (by kernel_rfl) (fun _ _ _ h => h) (Or.inl ⟨by rfl, ?_⟩) hHeld ?_
  · intro u hu
    go_simp
  try simp only [Act.put, List.setIfInBounds_toArray, List.set_cons_zero, List.set_cons_succ]
  refine wpAnyH_take (i := 1) (oi := { dst := some 14, op := Op.load 3 (Operand.tmp 13), type := 3, pos := _, after := #[{ on := 0, ground := Ground.data }], guard := none }) (v := .int .i64 p.at') rfl (by kernel_rfl) (by kernel_rfl) (by kernel_rfl) (fun _ _ _ h => h) (Or.inl ⟨by rfl, ?_⟩) hHeld ?_
  · intro u hu
    have x1 := (Pt.cells (r6.later hu)).2.1; go_simp
  try simp only [Act.put, List.setIfInBounds_toArray, List.set_cons_zero, List.set_cons_succ]
  refine wpAnyH_take (i := 2) (oi := { dst := some 15, op := Op.load 23 (Operand.tmp 2), type := 23, pos := _, after := #[], guard := none }) (v := .slice (some ⟨sb, so, none⟩) 1 sc) rfl (by kernel_rfl) (by kernel_rfl) (by kernel_rfl) (fun _ _ _ h => h) (Or.inl ⟨by rfl, ?_⟩) hHeld ?_
  · intro u hu
    have x1 := (Stp.of_below (bnext B60 hu (Nat.le_refl _)) (fun _ => False)).cell c30 id; go_simp
  try simp only [Act.put, List.setIfInBounds_toArray, List.set_cons_zero, List.set_cons_succ]
  refine wpAnyH_take (i := 3) (oi := { dst := some 16, op := Op.indexAddr 23 (Operand.tmp 15) (Operand.const (Value.int IntKind.i64 0)), type := 0, pos := _, after := #[{ on := 2, ground := Ground.data }], guard := none }) (v := .pointer (some ⟨sb, so, none⟩)) rfl (by kernel_rfl) (by kernel_rfl) (by kernel_rfl) (fun _ _ _ h => h) (Or.inl ⟨by rfl, ?_⟩) hHeld ?_
  · intro u hu
    go_simp
  try simp only [Act.put, List.setIfInBounds_toArray, List.set_cons_zero, List.set_cons_succ]
  refine wpAnyH_take (i := 4) (oi := { dst := some 17, op := Op.load 3 (Operand.tmp 16), type := 3, pos := _, after := #[{ on := 3, ground := Ground.data }], guard := none }) (v := .int .i64 x) rfl (by kernel_rfl) (by kernel_rfl) (by kernel_rfl) (fun _ _ _ h => h) (Or.inl ⟨by rfl, ?_⟩) hHeld ?_
  · intro u hu
    have x1 := (Stp.of_below (bnext B60 hu (Nat.le_refl _)) (fun _ => False)).cell cx id; go_simp
  try simp only [Act.put, List.setIfInBounds_toArray, List.set_cons_zero, List.set_cons_succ]
  refine wpAnyH_take (i := 5) (oi := { dst := some 18, op := Op.binOp BinOp.neq 3 (Operand.tmp 14) (Operand.tmp 17) 3, type := 4, pos := _, after := #[{ on := 1, ground := Ground.data }, { on := 4, ground := Ground.data }], guard := none }) (v := .bool (p.at' != x)) rfl (by kernel_rfl) (by kernel_rfl) (by kernel_rfl) (fun _ _ _ h => h) (Or.inl ⟨by rfl, ?_⟩) hHeld ?_
  · intro u hu
    go_simp
  try simp only [Act.put, List.setIfInBounds_toArray, List.set_cons_zero, List.set_cons_succ]
  refine wpAnyH_take (i := 6) (oi := { dst := some 4, op := Op.assign (Operand.tmp 18), type := 4, pos := _, after := #[{ on := 5, ground := Ground.data }, { on := 0, ground := Ground.phase }, { on := 1, ground := Ground.phase }, { on := 2, ground := Ground.phase }, { on := 3, ground := Ground.phase }, { on := 4, ground := Ground.phase }, { on := 5, ground := Ground.phase }], guard := none }) (v := .bool (p.at' != x)) rfl (by kernel_rfl) (by kernel_rfl) (by kernel_rfl) (fun _ _ _ h => h) (Or.inl ⟨by rfl, ?_⟩) hHeld ?_
  · intro u hu
    go_simp
  try simp only [Act.put, List.setIfInBounds_toArray, List.set_cons_zero, List.set_cons_succ]
  refine wpAnyH_done (by kernel_rfl) ?_ _
  go_wp2_with fail
  go_returns
  exact ⟨ret_bool hpost.out.symm, bnext B6 hHeld (Nat.le_refl _)⟩
set_option maxRecDepth 100000 in
set_option maxHeartbeats 2000000 in
theorem alone_any {w : World} {g mp mw : Nat} {f fw : Int → Option Value} {Z : GZ} {E F : Nat → Prop} (H : Gr w g mp mw f fw Z E F) (hnl : ∀ p ∈ Z.l, p.needs.length ≤ 100000) {s : Sv} {L : List Int} (hs : InsS w s L) :
    Calls Try.prog 39 #[.pointer (some ⟨g, 0, none⟩), .slice s.a s.n s.c] w fun e w' => e = .returned (.bool (frS L Z.l)) ∧ Below w.heap.size w w' := by
  have hsn : s.n = L.length := hs.i.len.symm
  by_cases h1 : L.length = 1
  · obtain ⟨x, rfl⟩ : ∃ x, L = [x] := List.length_eq_one_iff.1 h1
    have b0 : Below w.heap.size w (w.alloc (.cells #[.pointer (some ⟨g, 0, none⟩)] 25)) := (Below.refl _ w).alloc (Nat.le_refl _) _
    have b1 : Below w.heap.size w ((w.alloc (.cells #[.pointer (some ⟨g, 0, none⟩)] 25)).alloc (.cells #[.slice s.a s.n s.c] 23)) := b0.alloc (Nat.le_trans (Nat.le_refl _) b0.size) _
    have hW := written_any (H.later b1)
    have hwf : ∀ i ∈ ids (thP Z.l (·.wr)), wfi i := fun i hi => by
      obtain ⟨p, h2, h3⟩ := ids_mem.1 hi
      have := H.ok.rng p (List.mem_filter.1 h2).1; have := H.ok.lt
      exact wfi_of (by omega)
    have hlen : (ids (thP Z.l (·.wr))).length ≤ 1000000 := by
      have h2 := H.ok.few
      have h3 : (thP Z.l (·.wr)).length ≤ Z.l.length := List.length_filter_le _ _
      unfold ids; rw [List.length_map]; omega
    have hT := tells_alone (H.later b1) hnl (hs.later b1) w.heap.size (w.heap.size + 1) (by simp [go_sem]) (by simp [go_sem]) _ hwf
    have hfr : Hid (frS [x] Z.l = !((ids (thP Z.l (·.wr))).any fun i => decide ((gt Z.l i).at' ≠ x))) := frS_yes H.ok.srt x
    have hC := fun (u : World) (hu : Below ((w.alloc (.cells #[.pointer (some ⟨g, 0, none⟩)] 25)).alloc (.cells #[.slice s.a s.n s.c] 23)).heap.size ((w.alloc (.cells #[.pointer (some ⟨g, 0, none⟩)] 25)).alloc (.cells #[.slice s.a s.n s.c] 23)) u) (v : Sv) (hv : InsS u v (ids (thP Z.l (·.wr)))) => containsFunc_any hv hlen 70 #[.pointer (some ⟨w.heap.size, 0, none⟩), .pointer (some ⟨w.heap.size + 1, 0, none⟩)] _ (fun u' i hi hu' => hT u' i hi (bnext hu hu' (Nat.le_refl _))) enter_alone
    generalize ((ids (thP Z.l (·.wr))).any fun i => decide ((gt Z.l i).at' ≠ x)) = bb at *
    generalize frS [x] Z.l = fr at *
    clear hT
    have hsn' : s.n = 1 := hsn
    obtain ⟨sa, sn, sc⟩ := s
    simp only at hsn'
    subst hsn'
    clear hsn h1
    go_enter Try.func39, Try.ntmps39
    go_wp2_with (first
      | (go_at_call 69; refine hW.mono ?_; rintro e w3 ⟨v3, rfl, o3, n3, b3⟩; clear hW
         obtain ⟨s3, e3, _, i3, _⟩ := o3.ins hwf n3
         subst e3)
      | (go_at_call 68; refine (hC _ b3 s3 i3).mono ?_; rintro e w4 ⟨rfl, b4⟩; clear hC))
    go_returns
    exact ⟨ret_bool hfr.out.symm, bnext (bnext b1 b3 (Nat.le_refl _)) b4 (Nat.le_refl _)⟩
  · have h1' : ¬ (s.n : Int) = 1 := by omega
    have hfr : Hid (frS L Z.l = false) := frS_no h1
    clear hsn h1
    have b0 : Below w.heap.size w (w.alloc (.cells #[.pointer (some ⟨g, 0, none⟩)] 25)) := (Below.refl _ w).alloc (Nat.le_refl _) _
    have b1 : Below w.heap.size w ((w.alloc (.cells #[.pointer (some ⟨g, 0, none⟩)] 25)).alloc (.cells #[.slice s.a s.n s.c] 23)) := b0.alloc (Nat.le_trans (Nat.le_refl _) b0.size) _
    go_enter Try.func39, Try.ntmps39
    go_wp2_with fail
    go_returns
    exact ⟨ret_bool hfr.out.symm, b1⟩
end Go.Proofs.Ytdfifneikmlmoaa
namespace Go.Proofs.Ytdfifneikmlmoaa
open Go.ChangeShapes Go.WideShapes Go.ChangeAt Go.RowKit
set_option linter.unusedVariables false
set_option linter.unusedSimpArgs false

theorem buildB0 (w : World) : (Instr.build 36 #[]).run Try.prog w = .ok (.agg (btc (.slice none 0 0) false).toArray) w := by kernel_rfl
theorem buildB1 (s : Sv) (w : World) : (Instr.build 36 #[(0, .slice s.a s.n s.c)]).run Try.prog w = .ok (.agg (btc (.slice s.a s.n s.c) false).toArray) w := by kernel_rfl
theorem buildB2 (s : Sv) (b : Bool) (w : World) : (Instr.build 36 #[(0, .slice s.a s.n s.c), (1, .bool b)]).run Try.prog w = .ok (.agg (btc (.slice s.a s.n s.c) b).toArray) w := by kernel_rfl
section
variable {ops : Array Oper} {rest : List Oper} {o : Oper} {a : Act} {w : World} {Q : Exit → Act → World → Prop}
theorem at_bldB0 (hw : Region.wanted o (yielded ops a.tmps) = true) (ho : o.op = .build 36 #[])
    (h : wpList Try.prog ops Q rest (a.put o.dst (.agg (btc (.slice none 0 0) false).toArray)) w) : wpList Try.prog ops Q (o :: rest) a w := by
  refine op_val hw _ _ ?_ h
  simp [execOp, ho, buildB0]
theorem at_bldB1 (hw : Region.wanted o (yielded ops a.tmps) = true) (x : Operand) (ho : o.op = .build 36 #[(0, x)]) (s : Sv) (hx : a.eval x = .slice s.a s.n s.c)
    (h : wpList Try.prog ops Q rest (a.put o.dst (.agg (btc (.slice s.a s.n s.c) false).toArray)) w) : wpList Try.prog ops Q (o :: rest) a w := by
  refine op_val hw _ _ ?_ h
  simp [execOp, ho, hx, buildB1]
theorem at_bldB2 (hw : Region.wanted o (yielded ops a.tmps) = true) (x y : Operand) (ho : o.op = .build 36 #[(0, x), (1, y)]) (s : Sv) (hx : a.eval x = .slice s.a s.n s.c) (b : Bool) (hy : a.eval y = .bool b)
    (h : wpList Try.prog ops Q rest (a.put o.dst (.agg (btc (.slice s.a s.n s.c) b).toArray)) w) : wpList Try.prog ops Q (o :: rest) a w := by
  refine op_val hw _ _ ?_ h
  simp [execOp, ho, hx, hy, buildB2]
theorem at_newBt (hw : Region.wanted o (yielded ops a.tmps) = true) (ho : o.op = .alloc 36)
    (h : ∀ g w', w.heap.size ≤ g → g < w'.heap.size → Cs w' g (btc (.slice none 0 0) false) → Below w.heap.size w w' → wpList Try.prog ops Q rest (a.put o.dst (.pointer (some ⟨g, 0, none⟩))) w') : wpList Try.prog ops Q (o :: rest) a w :=
  at_newC 36 2 _ srtBt hw ho h
theorem at_getBt (hw : Region.wanted o (yielded ops a.tmps) = true) (y : Operand) (ho : o.op = .load 36 y) (g : Nat) (hx : a.eval y = .pointer (some ⟨g, 0, none⟩)) (v : Value) (b : Bool) (hR : Cs w g (btc v b))
    (h : wpList Try.prog ops Q rest (a.put o.dst (.agg (btc v b).toArray)) w) : wpList Try.prog ops Q (o :: rest) a w :=
  at_getC 36 2 _ srtBt hw y ho g hx (btc v b) hR rfl h
theorem at_putBt (hw : Region.wanted o (yielded ops a.tmps) = true) (y z : Operand) (ho : o.op = .store 36 y z) (g : Nat) (hx : a.eval y = .pointer (some ⟨g, 0, none⟩)) (v : Value) (hv : v.oneCell' = true) (b : Bool) (hy : a.eval z = .agg (btc v b).toArray) (cs : List Value) (hR : Cs w g cs) (hl : cs.length = 2)
    (h : ∀ w', Cs w' g (btc v b) → Stp (fun x => x = g) w w' → wpList Try.prog ops Q rest (a.put o.dst undef) w') : wpList Try.prog ops Q (o :: rest) a w :=
  at_putC 36 2 _ srtBt hw y z ho g hx (btc v b) hy rfl (btc_one hv b) cs hR hl h
end
/-- Whether there is a next batch. -/
def mor (is : List Int) (l : List Pt) : Bool := !(nd is l).isEmpty
theorem mor_no {is : List Int} {l : List Pt} (h : nd is l = []) : mor is l = false ∧ bsS is l = [] ∧ frS (bsS is l) l = false := by
  have h2 : bsS is l = [] := by
    unfold bsS
    rw [h]
    exact List.filter_eq_nil_iff.2 (fun s _ => by simp [ids])
  exact ⟨by unfold mor; rw [h]; rfl, h2, by rw [h2]; rfl⟩
theorem mor_yes {is : List Int} {l : List Pt} (h : nd is l ≠ []) : mor is l = true := by
  unfold mor
  cases hn : nd is l with
  | nil => exact absurd hn h
  | cons a t => rfl
theorem bsS_wfi {Z : GZ} {t : Int} (h : Z.ok t) (is : List Int) : ∀ s ∈ bsS is Z.l, wfi s := fun s hs => by
  have h1 := secs_mem.1 (List.mem_filter.1 hs).1
  obtain ⟨x, hx⟩ := List.exists_mem_of_ne_nil _ h1
  obtain ⟨p, p1, _, p3, _⟩ := wts_mem.1 hx
  have := fit_to (h.ft p p1)
  exact wfi_of (by omega)
theorem bsS_len {Z : GZ} {t : Int} (h : Z.ok t) (is : List Int) : ((bsS is Z.l).length : Int) ≤ t := by
  have h1 := secs_len h
  have h2 : (bsS is Z.l).length ≤ (secs Z.l).length := List.length_filter_le _ _
  omega
theorem nd_wfi {Z : GZ} (h : Z.ok 2000) (is : List Int) : ∀ x ∈ ids (nd is Z.l), wfi x := fun x hx => by
  obtain ⟨p, p1, p2⟩ := ids_mem.1 hx
  have := h.rng p (nd_sub is _ p p1); have := h.lt
  exact wfi_of (by omega)
set_option maxRecDepth 100000 in
set_option maxHeartbeats 2000000 in
theorem next_any {w : World} {g mp mw : Nat} {f fw : Int → Option Value} {Z : GZ} {E F : Nat → Prop} (H : Gr w g mp mw f fw Z E F) {s : Sv} {is : List Int} (hs : InsS w s is) (hl : is.length ≤ 1000) (hzl : Z.l.length ≤ 100) (hn6 : ∀ p ∈ Z.l, p.needs.length ≤ 6) :
    Calls Try.prog 15 #[.pointer (some ⟨g, 0, none⟩), .slice s.a s.n s.c] w fun e w' => ∃ v, e = .returned (.tuple #[.agg (btc v (frS (bsS is Z.l) Z.l)).toArray, .bool (mor is Z.l)]) ∧ OwV w' v (bsS is Z.l) ∧ New w.heap.size v ∧ Below w.heap.size w w' := by
  have hnl : ∀ p ∈ Z.l, p.needs.length ≤ 100000 := fun p hp => by have := hn6 p hp; omega
  have hN := fun (u : World) (hu : Below w.heap.size w u) => needed_both (H.later hu) (hs.later hu) hl hzl hn6
  have hwf := nd_wfi H.ok is
  have hwf2 := bsS_wfi H.ok is
  have hidl : (ids (nd is Z.l)).length = (nd is Z.l).length := by unfold ids; rw [List.length_map]
  have t1 : True := trivial
  have t2 : True := trivial
  have t3 : True := trivial
  by_cases hn : nd is Z.l = []
  · obtain ⟨e1, e2, e3⟩ := mor_no hn
    have hE : Hid (mor is Z.l = false ∧ bsS is Z.l = [] ∧ frS (bsS is Z.l) Z.l = false) := ⟨e1, e2, e3⟩
    rw [hn] at hN
    have hN' : Hid (∀ (u : World) (hu : Below w.heap.size w u), Calls Try.prog 8 #[.pointer (some ⟨g, 0, none⟩), .slice s.a s.n s.c] u fun e w' => ∃ v, e = .returned v ∧ OwV w' v (ids []) ∧ New u.heap.size v ∧ Below u.heap.size u w') := hN
    clear hN e1 e2 e3 hn hidl hwf hwf2
    go_enter Try.func15, Try.ntmps15
    go_wp2_with (first
      | (clear t1; refine at_newBt (by rfl) (by rfl) ?_; intro g1 w1 a1 a2 r1 b1)
      | (go_at_call 8; refine (hN'.out _ b1).mono ?_; rintro e w2 ⟨v2, rfl, o2, n2, b2⟩; clear hN'
         obtain ⟨xa, xc, rfl⟩ := OwV.zero o2
         replace r1 := r1.later b2)
      | (clear t2; refine at_bldB0 (by rfl) (by rfl) ?_)
      | (clear t3; refine at_putBt (by rfl) _ _ (by rfl) g1 (by rfl) (.slice none 0 0) rfl false (by rfl) _ r1 rfl ?_; intro w3 r3 s3))
    refine bodyPost_ret (retCt srtBt rfl rfl rfl r3 rfl) rfl ?_
    rw [hE.out.1, hE.out.2.2, hE.out.2.1]
    exact ⟨_, rfl, OwV.nil _, (fun r e => by cases e), ((Stp.of_below (bnext b1 b2 (Nat.le_refl _)) (fun _ => False)).next s3 (fun x e => .inr (by omega))).below (Nat.le_refl _) (fun x e => e.elim)⟩
  · have hE : Hid (mor is Z.l = true) := mor_yes hn
    have hne : ¬ ((ids (nd is Z.l)).length : Int) = 0 := by
      rw [hidl]
      intro e
      exact hn (List.eq_nil_of_length_eq_zero (by omega))
    have hne' : Hid (¬ ((ids (nd is Z.l)).length : Int) = 0) := hne
    have hD := fun (u : World) (hu : Below w.heap.size w u) (v : Sv) (hv : InsS u v (ids (nd is Z.l))) => due_any (H.later hu) hnl (is := is) hv
    have hA := fun (u : World) (hu : Below w.heap.size w u) (v : Sv) (hv : InsS u v (bsS is Z.l)) => alone_any (H.later hu) hnl hv
    generalize frS (bsS is Z.l) Z.l = fr at *
    generalize bsS is Z.l = L at *
    generalize ids (nd is Z.l) = I at *
    clear hn hidl hne
    have hN' : Hid (∀ (u : World) (hu : Below w.heap.size w u), Calls Try.prog 8 #[.pointer (some ⟨g, 0, none⟩), .slice s.a s.n s.c] u fun e w' => ∃ v, e = .returned v ∧ OwV w' v I ∧ New u.heap.size v ∧ Below u.heap.size u w') := hN
    clear hN
    go_enter Try.func15, Try.ntmps15
    go_wp2_with (first
      | (clear t1; refine at_newBt (by rfl) (by rfl) ?_; intro g1 w1 a1 a2 r1 b1)
      | (go_at_call 8; refine (hN'.out _ b1).mono ?_; rintro e w2 ⟨v2, rfl, o2, n2, b2⟩; clear hN'
         obtain ⟨⟨sa, sn, sc⟩, e2, e3, i2, -⟩ := o2.ins hwf n2
         subst e2
         have hsn : ¬ (sn : Int) = 0 := by simp only at e3; rw [e3]; exact hne'.out
         clear e3
         have B2 := bnext b1 b2 (Nat.le_refl _)
         replace r1 := r1.later b2)
      | (go_at_call 38; refine (hD _ B2 ⟨sa, sn, sc⟩ i2).mono ?_; rintro e w3 ⟨v3, rfl, o3, n3, b3⟩; clear hD
         obtain ⟨⟨ta, tn, tc⟩, e4, -, i3, -⟩ := o3.ins hwf2 n3
         subst e4
         have B3 := bnext B2 b3 (Nat.le_refl _)
         replace r1 := r1.later b3)
      | (go_at_call 39; refine (hA _ B3 ⟨ta, tn, tc⟩ i3).mono ?_; rintro e w4 ⟨rfl, b4⟩; clear hA
         replace r1 := r1.later b4)
      | (clear t2; refine at_bldB2 (by rfl) _ _ (by rfl) ⟨ta, tn, tc⟩ (by rfl) fr (by rfl) ?_)
      | (clear t3; refine at_putBt (by rfl) _ _ (by rfl) g1 (by rfl) (.slice ta tn tc) rfl fr (by rfl) _ r1 rfl ?_; intro w5 r5 s5))
    refine bodyPost_ret (retCt srtBt rfl rfl rfl r5 rfl) rfl ?_
    rw [hE.out]
    have z1 := r1.lt
    have z2 := B2.size
    have z3 := b2.size
    refine ⟨_, rfl, (o3.later b4).step s5 (fun r hr e => by have := n3 r hr; omega), fun r hr => by have := n3 r hr; omega, ((Stp.of_below (bnext B3 b4 (Nat.le_refl _)) (fun _ => False)).next s5 (fun x e => .inr (by omega))).below (Nat.le_refl _) (fun x e => e.elim)⟩
end Go.Proofs.Ytdfifneikmlmoaa
namespace Go.Proofs.Ytdfifneikmlmoaa
open Go.ChangeShapes Go.WideShapes Go.ChangeAt Go.RowKit
set_option linter.unusedVariables false
set_option linter.unusedSimpArgs false

theorem cr_snoc : ∀ (A : List Int) (Z : GZ) (s : Int), Z.cr (A ++ [s]) = (Z.cr A).wr (rdy (Z.cr A).l s)
  | [], Z, s => rfl
  | a :: t, Z, s => cr_snoc t (Z.wr (rdy Z.l a)) s
theorem crO_snoc : ∀ (A : List Int) (Z : GZ) (s : Int), Z.crO (A ++ [s]) = Z.crO A ++ rdy (Z.cr A).l s
  | [], Z, s => by simp [GZ.crO, GZ.cr]
  | a :: t, Z, s => by
    have := crO_snoc t (Z.wr (rdy Z.l a)) s
    simp only [List.cons_append, GZ.crO, GZ.cr, this, List.append_assoc]
theorem cr_needs {Z : GZ} (hs : Rise Z.l) {n : Nat} (h : ∀ p ∈ Z.l, p.needs.length ≤ n) (A : List Int) : ∀ p ∈ (Z.cr A).l, p.needs.length ≤ n := by
  rw [(cr_setO A Z hs).1]
  intro p hp
  obtain ⟨q, h1, h2⟩ := setO_mem.1 hp
  rw [h2]
  split
  · exact h q h1
  · exact h q h1
theorem car_needs {Z : GZ} (hs : Rise Z.l) {n : Nat} (h : ∀ p ∈ Z.l, p.needs.length ≤ n) (A : List Int) : ∀ p ∈ (Z.car A).l, p.needs.length ≤ n := fun p hp => h p (car_sub hs A hp)
theorem car_len {Z : GZ} (hs : Rise Z.l) (A : List Int) : (Z.car A).l.length ≤ Z.l.length := by
  rw [(car_is Z hs A).1]; exact List.length_filter_le _ _
theorem setO_ok {Z Z' : GZ} {t : Int} (h : Z.ok t) {O : List Int} (e : Z'.l = setO Z.l O) (e2 : Z'.last = Z.last) : Z'.ok t := by
  have key : ∀ p ∈ Z'.l, ∃ q ∈ Z.l, p.id = q.id ∧ p.needs = q.needs ∧ p.own = q.own ∧ p.child = q.child ∧ fit p = fit q := fun p hp => by
    rw [e] at hp
    obtain ⟨q, h1, h2⟩ := setO_mem.1 hp
    refine ⟨q, h1, ?_⟩
    rw [h2]
    split
    · exact ⟨rfl, rfl, rfl, rfl, rfl⟩
    · exact ⟨rfl, rfl, rfl, rfl, rfl⟩
  refine ⟨by rw [e]; exact setO_rise h.srt O, fun p hp => ?_, fun p hp => ?_, fun p hp => ?_, fun p hp => ?_, by rw [e2]; exact h.l0, by rw [e2]; exact h.lt⟩
  · obtain ⟨q, h1, h2, _⟩ := key p hp
    rw [h2, e2]; exact h.rng q h1
  · obtain ⟨q, h1, _, _, _, _, h2⟩ := key p hp
    rw [h2]; exact h.ft q h1
  · obtain ⟨q, h1, h2, h3, _⟩ := key p hp
    rw [h2, h3]; exact h.nds q h1
  · obtain ⟨q, h1, _, _, h2, h3, _⟩ := key p hp
    rw [h2, h3]; exact h.wf q h1
theorem wr_ok {Z : GZ} {t : Int} (h : Z.ok t) (s : Int) : (Z.wr (rdy Z.l s)).ok t := setO_ok h (wr_rdy h.srt s).1 (wr_rdy h.srt s).2
theorem bsS_few {Z : GZ} {t : Int} (h : Z.ok t) (is : List Int) : (bsS is Z.l).length ≤ Z.l.length := by
  have h2 : (bsS is Z.l).length ≤ (secs Z.l).length := List.length_filter_le _ _
  have h4 := nodup_le (secs Z.l) (Z.l.map (·.at')) (rise_nodup (secs_rise _)) (fun x hx => by
    have := secs_mem.1 hx
    obtain ⟨y, hy⟩ := List.exists_mem_of_ne_nil _ this
    obtain ⟨p, q1, q2, q3, _⟩ := wts_mem.1 hy
    exact List.mem_map.2 ⟨p, q1, q3⟩)
  rw [List.length_map] at h4
  omega
theorem crO_few : ∀ (L : List Int) (Z : GZ), Z.ok 2000 → (Z.crO L).length ≤ L.length * 2000
  | [], Z, _ => Nat.zero_le _
  | s :: r, Z, h => by
    have e := wr_rdy h.srt s
    have h2 : (Z.wr (rdy Z.l s)).ok 2000 := wr_ok h s
    have ih := crO_few r _ h2
    have h3 := rdy_len h s
    unfold GZ.crO
    rw [List.length_append, List.length_cons]
    omega
theorem crO_len {Z : GZ} (h : Z.ok 2000) (L : List Int) (hl : L.length ≤ 400) : (Z.crO L).length ≤ 1000000 := by
  have := crO_few L Z h
  have : L.length * 2000 ≤ 400 * 2000 := Nat.mul_le_mul_right _ hl
  omega
/-- On the way over the sectors. -/
structure CaI (w wr : World) (g : Nat) (Z : GZ) (E F : Nat → Prop) (L : List Int) (k : Nat) (v : Value) : Prop where
  gh : Gh wr g (Z.cr (L.take k)) E F
  ow : OwV wr v (Z.crO (L.take k))
  nw : New w.heap.size v
  st : Stp F w wr
  few : (Z.crO (L.take k)).length ≤ k * 2000
set_option maxRecDepth 100000 in
set_option maxHeartbeats 4000000 in
theorem carry_any {w : World} {g : Nat} {Z : GZ} {E F B : Nat → Prop} (H : Gh w g Z E F) (hnl : ∀ p ∈ Z.l, p.needs.length ≤ 100000) {s : Sv} {L : List Int} (hs : InsS w s L) (he : InE B s) (hB : ∀ x, B x → ¬ F x) (hL : L.length ≤ 400) (b : Bool) :
    Calls Try.prog 12 #[.pointer (some ⟨g, 0, none⟩), .agg (btc (.slice s.a s.n s.c) b).toArray] w fun e w' => ∃ v, e = .returned v ∧ OwV w' v (Z.crO L) ∧ New w.heap.size v ∧ Gh w' g (Z.car L) E F ∧ Stp F w w' := by
  have hl := hs.i.len
  have hok : Z.ok 2000 := by obtain ⟨_, _, _, _, H⟩ := H; exact H.ok
  have hFlt : ∀ x, F x → x < w.heap.size := by obtain ⟨_, _, _, _, H⟩ := H; exact H.lt
  have hElt : ∀ x, E x → x < w.heap.size := by obtain ⟨_, _, _, _, H⟩ := H; exact H.el
  obtain ⟨na, nn, nc⟩ := s
  have t1 : True := trivial
  go_enter Try.func12, Try.ntmps12
  go_wp2_with (first
    | (clear t1; refine at_boxC 36 (by rfl) _ (by rfl) (btc (.slice na nn nc) b) (by rfl) (btc_one rfl b) ?_; intro g3 w3 a3 a4 r3 b3; have c0 := r3.cell 0 _ rfl))
  have start : CaI w w3 g Z E F L 0 (.slice none 0 0) := ⟨by obtain ⟨_, _, _, _, H⟩ := H; exact ⟨_, _, _, _, H.later b3⟩, OwV.nil _, (fun r e => by cases e), Stp.of_below b3 F, Nat.zero_le _⟩
  clear c0 r3 H
  go_loopw [5, 12] (fun v u wr => ∃ k : Nat, k ≤ L.length ∧ u = .int .i64 (k : Int) ∧ CaI w wr g Z E F L k v) (fun _ u _ => L.length - (intOf u).toNat)
  case atStart => exact ⟨0, Nat.zero_le _, rfl, start⟩
  case round =>
    clear start
    obtain ⟨k, hk, rfl, I⟩ := hrel
    obtain ⟨mp, mw, f, fw, H2⟩ := I.gh
    by_cases hlt : k < L.length
    · have h2 := hs.step I.st he hB
      obtain ⟨bb, o, e, hcs⟩ := h2.i.cell (by simp only at hl ⊢; omega)
      have ck := hcs k (by simp only at hl ⊢; omega)
      simp only at e
      subst e
      have hT : L.take (k + 1) = L.take k ++ [L.getD k 0] := by
        rw [List.take_add_one, List.getElem?_eq_getElem hlt, List.getD_eq_getElem?_getD, List.getElem?_eq_getElem hlt]; rfl
      have e1 : Hid (Z.cr (L.take (k + 1)) = (Z.cr (L.take k)).wr (rdy (Z.cr (L.take k)).l (L.getD k 0))) := by show _ = _; rw [hT, cr_snoc]
      have e2 : Hid (Z.crO (L.take (k + 1)) = Z.crO (L.take k) ++ rdy (Z.cr (L.take k)).l (L.getD k 0)) := by show _ = _; rw [hT, crO_snoc]
      have hwx : wfi (L.getD k 0) := by
        rw [List.getD_eq_getElem?_getD, List.getElem?_eq_getElem hlt]; exact hs.i.wf _ (List.getElem_mem _)
      have hnl2 := cr_needs hok.srt hnl (L.take k)
      have hfw := I.few
      have how := I.ow
      have hgh2 := I.gh
      have hlr := rdy_len H2.ok (L.getD k 0)
      have hwr := rdy_wfi H2.ok (by omega) (L.getD k 0)
      generalize hO : Z.crO (L.take k) = O at *
      generalize hZ : Z.cr (L.take k) = Z2 at *
      generalize L.getD k 0 = y at *
      have hRd := ready_any H2 y hwx hnl2
      clear hcs h2 hT hO hZ
      generalize hR : rdy Z2.l y = R at *
      have hbig : O.length + R.length ≤ 1000000 := by
        have : k * 2000 ≤ 400 * 2000 := Nat.mul_le_mul_right _ (by omega)
        omega
      have a3 : (k : Int) < (nn : Int) := by omega
      have hbig' : Hid (O.length + R.length ≤ 1000000) := hbig
      have hR1 : Hid (R.length ≤ 100000) := by show _ ≤ _; omega
      have hfw' : Hid (O.length + R.length ≤ (k + 1) * 2000) := by show _ ≤ _; omega
      have hF2 : ∀ x, F x → x < wr.heap.size := H2.lt
      have hst := I.st
      have hnw := I.nw
      clear hbig hfw hlr I hR
      go_wp2_with (first
        | (go_at_call 17; refine hRd.mono ?_; rintro e w4 ⟨v4, rfl, o4, n4, b4⟩; clear hRd
           obtain ⟨⟨sa, sn, sc⟩, e4, e5, i4, e6⟩ := o4.ins hwr n4
           subst e4
           have hWr := write_any (Gh.later hgh2 b4) i4 e6 (fun x hx hf => by have := hF2 x hf; have := hx.1; omega) hR1.out hnl2
           have e5' : Hid (sn = R.length) := e5
           clear e5)
        | (go_at_call 26; refine hWr.mono ?_; rintro e w5 ⟨rfl, g5, s5⟩; clear hWr
           have i5 := i4.step s5 e6 (fun x hx hf => by have := hF2 x hf; have := hx.1; omega)
           have ow5 := (how.later b4).step s5 (fun r hr hf => by have := hnw r hr; have := hFlt r hf; omega))
        | (at_builtin; refine at_appR elI w.heap.size rfl _ _ (by rfl) (by rfl) ow5 hnw sa sc (R.map (Value.int .i64)) (m := sn) (by rfl) (by rw [List.length_map, e5'.out, Nat.mul_one]) (fun e => ⟨(i5.zero e).1, (i5.zero e).2.1⟩) (fun ad e j u hu => i5.cells ad e j u hu) (by intro u hu; obtain ⟨x, _, rfl⟩ := List.mem_map.1 hu; rfl) (by rw [e5'.out]; exact hbig'.out) (by have := hst.size; have := b4.size; have := s5.size; omega) ?_
           intro v6 w6 hA))
      obtain ⟨A1, A2, A3, A4, -⟩ := hA
      have s6 : Stp F w w6 := ((hst.trans (Stp.of_below b4 F)).trans s5).next A4 (fun x e => .inr (hnw x e))
      have g6 : Gh w6 g (Z2.wr R) E F := by
        obtain ⟨_, _, _, _, H5⟩ := g5
        exact ⟨_, _, _, _, H5.step A4 (fun x hx e => by have := hFlt x hx; have := hnw x e; omega) (fun x hx e => by have := hElt x hx; have := hnw x e; omega)⟩
      have J : CaI w w6 g Z E F L (k + 1) v6 := ⟨by rw [e1.out]; exact g6, by rw [e2.out]; unfold OwV; rw [List.length_append, List.map_append, ← e5'.out]; exact A1, A2, s6, by rw [e2.out, List.length_append]; exact hfw'.out⟩
      go_wp2_with fail
      go_roundw
      case rel => exact ⟨k + 1, by omega, by go_num, J⟩
      case measure => simp [intOf]; omega
    · have hk' : k = L.length := by omega
      subst hk'
      have hS := settleAll_any H2
      have how := I.ow
      have hst := I.st
      have hnw := I.nw
      rw [List.take_length] at hS how
      have hcar : Hid (Z.car L = (Z.cr L).stl fun _ => true) := by show _ = _; rfl
      generalize (Z.cr L).stl (fun _ => true) = Z3 at *
      generalize (Z.cr L).stlN (fun _ => true) = n3 at *
      clear I
      go_wp2_with (first
        | (go_at_call 36; refine hS.mono ?_; rintro e w5 ⟨rfl, g5, s5⟩; clear hS))
      go_returns
      exact ⟨_, rfl, how.step s5 (fun r hr hf => by have := hnw r hr; have := hFlt r hf; omega), hnw, by rw [hcar.out]; exact g5, hst.trans s5⟩
end Go.Proofs.Ytdfifneikmlmoaa
namespace Go.Proofs.Ytdfifneikmlmoaa
open Go.ChangeShapes Go.WideShapes Go.ChangeAt Go.RowKit
set_option linter.unusedVariables false
set_option linter.unusedSimpArgs false

/-- A batch, and where its sectors lie. -/
structure Be where
  s : Sv
  l : List Int
  f : Bool
def Be.cs (t : Be) : List Value := btc (.slice t.s.a t.s.n t.s.c) t.f
def Be.bt (t : Be) : Bt := ⟨t.l, t.f⟩
theorem Be.cs_len (t : Be) : t.cs.length = 2 := rfl
theorem Be.cs_one (t : Be) : ∀ v ∈ t.cs, v.oneCell' = true := btc_one rfl _
def fb (L : List Be) : List Value := L.flatMap Be.cs
theorem fb_nil : fb [] = [] := rfl
theorem fb_cons (t : Be) (L : List Be) : fb (t :: L) = t.cs ++ fb L := by unfold fb; rw [List.flatMap_cons]
theorem fb_append (L L' : List Be) : fb (L ++ L') = fb L ++ fb L' := by unfold fb; rw [List.flatMap_append]
theorem fb_len : ∀ L : List Be, (fb L).length = L.length * 2
  | [] => rfl
  | t :: L => by rw [fb_cons, List.length_append, t.cs_len, fb_len L, List.length_cons]; omega
theorem fb_get : ∀ (L : List Be) (i j : Nat) (t : Be), L[i]? = some t → j < 2 → (fb L)[i * 2 + j]? = t.cs[j]?
  | [], i, j, t, h, _ => by cases h
  | a :: L, 0, j, t, h, hj => by
    injection h with h; subst h
    rw [fb_cons, List.getElem?_append_left (by rw [a.cs_len]; omega)]
    congr 1; omega
  | a :: L, i + 1, j, t, h, hj => by
    have h' : L[i]? = some t := by simpa using h
    rw [fb_cons, List.getElem?_append_right (by rw [a.cs_len]; omega), a.cs_len, ← fb_get L i j t h' hj]
    congr 1; omega
/-- A type of batches, and of slices of them. -/
structure BtT (T TS : TypeId) : Prop where
  srt : Srt T 2 (btc (.slice none 0 0) false)
  el : ElT TS T 2
  inf : (Try.prog.info? T).map (fun i => (i.zero, i.size, i.bytes)) = some (some (.agg (btc (.slice none 0 0) false).toArray), 2, 32)
  und : ∃ d, Try.prog.underlying T = some d ∧ d.isRow = true
  sz : (Try.prog.info? T).map (·.size) = some 2
theorem btP : BtT 36 31 := ⟨srtBt, ⟨by kernel_rfl, ⟨.agg (btc (.slice none 0 0) false).toArray, 32, by kernel_rfl, rfl, by omega⟩, by omega⟩, by kernel_rfl, ⟨_, Try.underlying36, rfl⟩, by kernel_rfl⟩
theorem bslice_b {T TS : TypeId} (hT : BtT T TS) (t : Be) (w : World) : (Instr.buildSlice TS 1 #[(0, .agg t.cs.toArray)]).run Try.prog w = .ok (.slice (some ⟨w.heap.size, 0, none⟩) 1 1) (w.alloc (.cells t.cs.toArray T)) := by
  obtain ⟨ie, hie, hz, hs, hb⟩ := info_parts hT.inf
  refine run_buildSlice w _ _ 1 _ t.cs.toArray ie _ hT.el.und hie hz (by rw [hs]; omega) (by rw [hs]; omega) ?_
  rw [hs]
  have := Great.fill_whole (s := 2) (by omega) [.agg t.cs.toArray] ((Array.range (1 * 2)).map ((Value.agg (btc (.slice none 0 0) false).toArray).cells[· % (Value.agg (btc (.slice none 0 0) false).toArray).cells.size]!)) (by intro v hv; simp at hv; subst hv; simp [Value.cells, t.cs_len]) (by simp)
  simpa [Value.cells] using this
section
variable {ops : Array Oper} {rest : List Oper} {o : Oper} {a : Act} {w : World} {Q : Exit → Act → World → Prop} {T TS : TypeId}
theorem at_bsB (hT : BtT T TS) (x : Operand) (ho : o.op = .buildSlice TS 1 #[(0, x)]) (hw : Region.wanted o (yielded ops a.tmps) = true) (t : Be) (hx : a.eval x = .agg t.cs.toArray)
    (h : wpList Try.prog ops Q rest (a.put o.dst (.slice (some ⟨w.heap.size, 0, none⟩) 1 1)) (w.alloc (.cells t.cs.toArray T))) : wpList Try.prog ops Q (o :: rest) a w := by
  refine op_val hw _ _ ?_ h
  simp [execOp, ho, hx, bslice_b hT]
theorem at_getBe (hT : BtT T TS) (x : Operand) (ho : o.op = .load T x) (hw : Region.wanted o (yielded ops a.tmps) = true) (g i : Nat) (hx : a.eval x = .pointer (some ⟨g, i, none⟩)) (t : Be) (hr : w.rangeAt g i t.cs)
    (h : wpList Try.prog ops Q rest (a.put o.dst (.agg t.cs.toArray)) w) : wpList Try.prog ops Q (o :: rest) a w := by
  refine op_val hw _ _ ?_ h
  obtain ⟨d, h1, h2⟩ := hT.und
  have : (loadVar T ⟨g, i, none⟩).run Try.prog w = .ok (.agg t.cs.toArray) w := run_loadVar_mid w g i _ t.cs _ hr h1 h2 (by rw [hT.sz]; rfl)
  simp [execOp, ho, hx, Instr.loadAt, Instr.sureAddr, this]
end
theorem cell_newB (w : World) (t : Be) (T : TypeId) : ∀ j u, t.cs[j]? = some u → (w.alloc (.cells t.cs.toArray T)).cell? ((⟨w.heap.size, 0, none⟩ : Addr).add j) = some u := fun j u hu => by
  rw [Addr.add_lit, Nat.zero_add]
  exact (Cs.made w t.cs T t.cs_one).cell j u hu
theorem ro_ty {w : World} {e : TypeId} {sz n : Nat} {v : Value} {xs : List Value} (h : w.ownsRow 0 e sz v n xs) {r : Nat} (hr : v.ownBlock = some r) : ∃ cur, w.heap[r]? = some (.cells cur e (0, 0)) := by
  rcases h.2 with ⟨h1, h2⟩ | ⟨g, cap, cur, h1, _, h3, _⟩
  · rw [h1] at hr; cases hr
  · rw [h1] at hr
    have : g = r := by simpa [Value.ownBlock] using hr
    subst this
    exact ⟨cur, h3⟩
/-- The slice v, of one's own, of the batches l; all of it behind N. -/
structure BtI (w : World) (T : TypeId) (N : Nat) (v : Value) (L : List Be) : Prop where
  ow : w.ownsRow 0 T 2 v L.length (fb L)
  nw : New N v
  el : ∀ t ∈ L, OwV w t.s.v t.l ∧ New N t.s.v ∧ ∀ x ∈ t.l, wfi x
def BtS (w : World) (T : TypeId) (N : Nat) (v : Value) (l : List Bt) : Prop := ∃ L : List Be, L.map Be.bt = l ∧ BtI w T N v L
section
variable {w w' : World} {T : TypeId} {N : Nat} {v : Value} {L : List Be} {l : List Bt} {X : Nat → Prop}
theorem BtI.nil (w : World) (T : TypeId) (N : Nat) : BtI w T N (.slice none 0 0) [] := ⟨⟨rfl, .inl ⟨rfl, rfl⟩⟩, (fun r e => by cases e), fun t h => by cases h⟩
theorem BtI.step (h : BtI w T N v L) (k : Stp X w w') (hX : ∀ x, X x → x < N ∨ w.heap.size ≤ x) : BtI w' T N v L :=
  ⟨ro_step h.ow k (fun r hr hx => by have := h.nw r hr; have := (h.ow.lt r hr).2; rcases hX r hx with e | e <;> omega), h.nw, fun t ht => by
    obtain ⟨h1, h2, h3⟩ := h.el t ht
    exact ⟨h1.step k (fun r hr hx => by have := h2 r hr; have := h1.lt hr; rcases hX r hx with e | e <;> omega), h2, h3⟩⟩
theorem BtI.later (h : BtI w T N v L) (k : Below w.heap.size w w') : BtI w' T N v L := h.step (Stp.of_below k (fun _ => False)) (fun x e => e.elim)
theorem BtI.shape (h : BtI w T N v L) : ∃ a c, v = .slice a L.length c ∧ (a = none → L.length = 0 ∧ c = 0) := by
  rcases h.ow.2 with ⟨h1, h2⟩ | ⟨g, cap, cur, h1, _, h3, h4, h5, h6, h7⟩
  · exact ⟨none, 0, by rw [h1, h2], fun _ => ⟨h2, rfl⟩⟩
  · exact ⟨_, cap, h1, fun e => by cases e⟩
theorem BtI.mono (h : BtI w T N v L) {M : Nat} (hM : M ≤ N) : BtI w T M v L := ⟨h.ow, fun r hr => Nat.le_trans hM (h.nw r hr), fun t ht => ⟨(h.el t ht).1, fun r hr => Nat.le_trans hM ((h.el t ht).2.1 r hr), (h.el t ht).2.2⟩⟩
theorem BtS.nil (w : World) (T : TypeId) (N : Nat) : BtS w T N (.slice none 0 0) [] := ⟨[], rfl, BtI.nil w T N⟩
theorem BtS.step (h : BtS w T N v l) (k : Stp X w w') (hX : ∀ x, X x → x < N ∨ w.heap.size ≤ x) : BtS w' T N v l := by obtain ⟨L, e, h⟩ := h; exact ⟨L, e, h.step k hX⟩
theorem BtS.later (h : BtS w T N v l) (k : Below w.heap.size w w') : BtS w' T N v l := by obtain ⟨L, e, h⟩ := h; exact ⟨L, e, h.later k⟩
theorem BtS.mono (h : BtS w T N v l) {M : Nat} (hM : M ≤ N) : BtS w T M v l := by obtain ⟨L, e, h⟩ := h; exact ⟨L, e, h.mono hM⟩
theorem BtS.shape (h : BtS w T N v l) : ∃ a c, v = .slice a l.length c := by
  obtain ⟨L, e, h⟩ := h
  obtain ⟨a, c, h1, _⟩ := h.shape
  exact ⟨a, c, by rw [h1, ← e, List.length_map]⟩
end
/-- One of them. -/
theorem BtI.el' {w : World} {T : TypeId} {N : Nat} {a : Option Addr} {c n : Nat} {L : List Be} (h : BtI w T N (.slice a n c) L) (k : Nat) (hk : k < L.length) : ∃ b, a = some ⟨b, 0, none⟩ ∧ w.rangeAt b (k * 2) (L[k]).cs := by
  rcases h.ow.2 with ⟨h1, h2⟩ | ⟨g, cap, cur, h1, _, h3, h4, h5, h6, h7⟩
  · omega
  · injection h1 with e1 e2 e3
    refine ⟨g, e1, fun j v hv => ?_⟩
    have hj := (List.getElem?_eq_some_iff.1 hv).1
    rw [Be.cs_len] at hj
    rw [← fb_get L k j L[k] (List.getElem?_eq_getElem hk) hj] at hv
    rw [cell_of_row w g _ _ _ (0, 0) h3]
    have hj2 := (List.getElem?_eq_some_iff.1 hv).1
    rw [fb_len] at hj2
    rw [← h7, List.getElem?_take, if_pos hj2] at hv
    simpa using hv
/-- One more. -/
theorem BtI.app {w w' : World} {T : TypeId} {N : Nat} {v v' : Value} {L : List Be} {t : Be} (h : BtI w T N v L) (hne : T ≠ 3) (hA : Apd w N T 2 v L.length 1 (fb L ++ t.cs) v' w') (h1 : OwV w t.s.v t.l) (h2 : New N t.s.v) (h3 : ∀ x ∈ t.l, wfi x) : BtI w' T N v' (L ++ [t]) := by
  obtain ⟨a1, a2, a3, a4, a5⟩ := hA
  refine ⟨?_, a2, fun t' ht' => ?_⟩
  · rw [fb_append, fb_cons, fb_nil, List.append_nil]
    simpa using a1
  · have : OwV w t'.s.v t'.l ∧ New N t'.s.v ∧ ∀ x ∈ t'.l, wfi x := by
      rcases List.mem_append.1 ht' with hq | hq
      · exact h.el t' hq
      · rw [List.mem_singleton.1 hq]; exact ⟨h1, h2, h3⟩
    refine ⟨this.1.step a4 (fun r hr hv => ?_), this.2⟩
    obtain ⟨c1, e1⟩ := ro_ty (show w.ownsRow 0 3 1 t'.s.v t'.l.length _ from this.1) hr
    obtain ⟨c2, e2⟩ := ro_ty h.ow hv
    rw [e1] at e2
    injection e2 with e2
    injection e2 with _ e3
    exact hne e3.symm
end Go.Proofs.Ytdfifneikmlmoaa
namespace Go.Proofs.Ytdfifneikmlmoaa
open Go.ChangeShapes Go.WideShapes Go.ChangeAt Go.RowKit Go.Shelf
set_option linter.unusedVariables false
set_option linter.unusedSimpArgs false

set_option maxRecDepth 100000 in
set_option maxHeartbeats 2000000 in
theorem clone_own {w : World} {v : Value} {l : List Int} (h : OwV w v l) (hne : l ≠ []) (hwf : ∀ x ∈ l, wfi x) (hl : l.length ≤ 100000) :
    Calls Try.prog 59 #[v] w fun e w' => ∃ v', e = .returned v' ∧ OwV w' v' l ∧ New w.heap.size v' ∧ Below w.heap.size w w' := by
  obtain ⟨g, cap, cur, rfl, hr⟩ := h.row1 hne
  have qnI : ∀ (w : World) (a : Option Addr) (n c n' c' : Nat), (binOp .eql 23 (.slice a n c) (.slice none n' c')).run Try.prog w = .ok (.bool a.isNone) w := fun w a n c n' c' => Lib.run_eql_slice_nil w _ _ a n c n' c' elI.und
  have q0 : (w.alloc (.cells #[] 3)).ownsRow 0 3 1 (.slice (some ⟨w.heap.size, 0, none⟩) 0 0) 0 [] := World.ownsRow_made w #[] 0 (Nat.zero_le _) (Nat.zero_le _) rfl
  have hcs' : ∀ ad, some (⟨g, 0, none⟩ : Addr) = some ad → ∀ j u, (l.map (Value.int .i64))[j]? = some u → (w.alloc (.cells #[] 3)).cell? (ad.add j) = some u := fun ad e j u hu => by
    injection e with e; subst e
    have := hr.cells j u hu
    rw [Addr.add_lit]
    rw [((Below.refl _ w).alloc (Nat.le_refl _) (.cells #[] 3)).cell (World.block_lt_of_cell? w _ this)]; exact this
  go_enter Try.func59, Try.ntmps59
  go_wp2_with (first
    | (refine at_appR elI w.heap.size rfl _ _ (by rfl) (by rfl) q0 (made_nw w) (some ⟨g, 0, none⟩) cap (l.map (Value.int .i64)) (by rfl) (by simp) (fun e => by cases e) hcs' (fun u hu => by obtain ⟨x, _, rfl⟩ := List.mem_map.1 hu; rfl) (by omega) (by simp) ?_; intro v' w' hA))
  go_returns
  obtain ⟨h1, h2, h3, h4, h5⟩ := hA
  rw [Nat.zero_add, List.nil_append] at h1
  have k0 : Stp (fun _ => False) w (w.alloc (.cells #[] 3)) := Stp.of_alloc _ _ _
  exact ⟨v', rfl, h1, h2, (k0.next h4 (F' := fun x => some w.heap.size = some x) (fun x e => .inr (by injection e with e; omega))).below (Nat.le_refl _) (fun x e => e.elim)⟩
theorem cloneM_any {w : World} {b : Nat} {f : Int → Option Value} (h : MpI Try.prog 3 w b f) :
    Calls Try.prog 58 #[.map (some b)] w fun e w' => ∃ b', e = .returned (.map (some b')) ∧ w.heap.size ≤ b' ∧ MpI Try.prog 3 w' b' f ∧ Below w.heap.size w w' := by
  obtain ⟨D, h1, h2⟩ := h
  have := AnyW.maps_Clone_owns cloneM 3 heldElem b 4096 D w h1
  refine Calls.mono this ?_
  rintro e w' ⟨rfl, k1, k2, k3⟩
  exact ⟨_, rfl, Nat.le_refl _, ⟨D, k1, h2⟩, k3⟩
section
variable {ops : Array Oper} {o : Oper} {a : Act} {w : World} {K : Act → World → Prop} {Q : Exit → Act → World → Prop} {R : Prop} {S : World → Prop}
theorem step_mkM (T : Nat) (hgd : o.guard = none) (ho : o.op = .makeMap T none)
    (h : ∀ b w', w.heap.size ≤ b → MpI Try.prog 3 w' b (fun _ => none) → Below w.heap.size w w' → K (a.put o.dst (.map (some b))) w') : if Region.wanted o (yielded ops a.tmps) = true then Oper.wp Try.prog o a w K Q else R := by
  have hw : Region.wanted o (yielded ops a.tmps) = true := by simp [Region.wanted, hgd]
  rw [if_pos hw]
  have h0 : (Instr.makeMap T none).run Try.prog w = .ok (.map (some w.heap.size)) (w.alloc (.map #[] 0)) := rfl
  have hr : (execOp a.eval o).run Try.prog w = .ok (.value (.map (some w.heap.size))) (w.alloc (.map #[] 0)) := by simp [execOp, ho, h0]
  unfold Oper.wp
  rw [hr]
  exact h w.heap.size _ (Nat.le_refl _) (MpI.made w _ _) ((Below.refl _ _).alloc (Nat.le_refl _) _)
theorem step_boxC (T : Nat) (hgd : o.guard = none) (x : Operand) (ho : o.op = .box T x) (cs : List Value) (hx : a.eval x = .agg cs.toArray) (h1 : ∀ v ∈ cs, v.oneCell' = true)
    (h : ∀ g w', w.heap.size ≤ g → g < w'.heap.size → Cs w' g cs → Below w.heap.size w w' → K (a.put o.dst (.pointer (some ⟨g, 0, none⟩))) w') : if Region.wanted o (yielded ops a.tmps) = true then Oper.wp Try.prog o a w K Q else R := by
  have hw : Region.wanted o (yielded ops a.tmps) = true := by simp [Region.wanted, hgd]
  rw [if_pos hw]
  have h0 : (Instr.box T (.agg cs.toArray)).run Try.prog w = .ok (.pointer (some ⟨w.heap.size, 0, none⟩)) (w.alloc (.cells cs.toArray T)) := by
    simp [Instr.box, newVar, Value.cells, go_sem]
  have hr : (execOp a.eval o).run Try.prog w = .ok (.value (.pointer (some ⟨w.heap.size, 0, none⟩))) (w.alloc (.cells cs.toArray T)) := by simp [execOp, ho, hx, h0]
  unfold Oper.wp
  rw [hr]
  exact h w.heap.size _ (Nat.le_refl _) (by simp) (Cs.made w cs T h1) ((Below.refl _ _).alloc (Nat.le_refl _) _)
theorem buildG3 (x : Int) (a b : Nat) (w : World) : (Instr.build 74 #[(0, .int .i64 x), (1, .map (some a)), (2, .map (some b))]).run Try.prog w = .ok (.agg [Value.int .i64 x, .map (some a), .map (some b)].toArray) w := by kernel_rfl
theorem yields_bG (hw : Region.wanted o (yielded ops a.tmps) = true) (x y z : Operand) (ho : o.op = .build 74 #[(0, x), (1, y), (2, z)]) (l : Int) (c d : Nat) (hx : a.eval x = .int .i64 l) (hy : a.eval y = .map (some c)) (hz : a.eval z = .map (some d)) :
    YieldsIf Try.prog ops S o (.agg [Value.int .i64 l, .map (some c), .map (some d)].toArray) a := by
  refine Or.inl ⟨hw, fun w _ => ?_⟩
  simp [execOp, ho, hx, hy, hz, buildG3]
end
/-- A copy that is being made. -/
structure CpI (w W wr : World) (mw r mq mv gq : Nat) (Z : GZ) (f fw : Int → Option Value) (left : Int → Bool) (cnt : Nat) (fv : Int → Option Value) : Prop where
  rg : RgI Try.prog 3 wr mw r fw left cnt
  mm : MpI Try.prog 3 wr mv fv
  pm : MpI Try.prog 3 wr mq f
  c : Cs wr gq [.int .i64 Z.last, .map (some mq), .map (some mv)]
  yes : ∀ s, (fw s).isSome = true → left s = false → ∃ v', fv s = some v' ∧ OwV wr v' (wts Z.l s) ∧ ∀ x, v'.ownBlock = some x → W.heap.size ≤ x
  no : ∀ s, ((fw s).isSome = false ∨ left s = true) → fv s = none
  ap : ∀ s s' v v' x, fv s = some v → fv s' = some v' → v.ownBlock = some x → v'.ownBlock = some x → s = s'
  b : Below w.heap.size w wr
  sz : W.heap.size ≤ wr.heap.size
theorem CpI.some {w W wr : World} {mw r mq mv gq : Nat} {Z : GZ} {f fw : Int → Option Value} {left : Int → Bool} {cnt : Nat} {fv : Int → Option Value} (h : CpI w W wr mw r mq mv gq Z f fw left cnt fv) {s : Int} {v : Value} (hv : fv s = Option.some v) : (fw s).isSome = true ∧ OwV wr v (wts Z.l s) ∧ ∀ x, v.ownBlock = Option.some x → W.heap.size ≤ x := by
  cases h1 : (fw s).isSome with
  | false => rw [h.no s (.inl h1)] at hv; cases hv
  | true =>
    cases h2 : left s with
    | true => rw [h.no s (.inr h2)] at hv; cases hv
    | false =>
      obtain ⟨v', e, k1, k2⟩ := h.yes s h1 h2
      rw [hv] at e; injection e with e; subst e
      exact ⟨rfl, k1, k2⟩
set_option maxRecDepth 100000 in
set_option maxHeartbeats 4000000 in
theorem copy_any {w : World} {g mp mw : Nat} {f fw : Int → Option Value} {Z : GZ} {E F : Nat → Prop} (H : Gr w g mp mw f fw Z E F) :
    Calls Try.prog 33 #[.pointer (some ⟨g, 0, none⟩)] w fun e w' => ∃ gq F', e = .returned (.pointer (some ⟨gq, 0, none⟩)) ∧ Gh w' gq Z E F' ∧ (∀ x, F' x → w.heap.size ≤ x) ∧ Below w.heap.size w w' := by
  obtain ⟨z0, z1, z2⟩ := H.cells
  go_enter Try.func33, Try.ntmps33
  go_upto_region 3 with fail
  go_cut [3] (fun u wx => ∃ gq mq mv, u = .pointer (some ⟨gq, 0, none⟩) ∧ Cs wx gq [.int .i64 Z.last, .map (some mq), .map (some mv)] ∧ MpI Try.prog 3 wx mq f ∧ MpI Try.prog 3 wx mv (fun _ => none) ∧ w.heap.size ≤ gq ∧ w.heap.size ≤ mq ∧ w.heap.size ≤ mv ∧ mq ≠ mv ∧ Below w.heap.size w wx)
  case first =>
    refine wp_region_held_drew (S := fun u => Below w.heap.size w u) (by kernel_rfl) (Below.refl _ _).drew (fun hHeld => ?_)
    refine wpAnyH_take (i := 0) (oi := { dst := some 8, op := Op.move (Operand.tmp 0), type := 25, pos := _, after := #[], guard := none }) (v := .pointer (some ⟨g, 0, none⟩)) rfl (by kernel_rfl) (by kernel_rfl) (by kernel_rfl) (fun _ _ _ h => h) (Or.inl ⟨by rfl, ?_⟩) hHeld ?_
    · intro u hu
      go_simp
    try simp only [Act.put, List.setIfInBounds_toArray, List.set_cons_zero, List.set_cons_succ]
    refine wpAnyH_take (i := 1) (oi := { dst := some 9, op := Op.nilCheck (Operand.tmp 8), type := 0, pos := _, after := #[{ on := 0, ground := Ground.data }], guard := none }) (v := .pointer (some ⟨g, 0, none⟩)) rfl (by kernel_rfl) (by kernel_rfl) (by kernel_rfl) (fun _ _ _ h => h) (Or.inl ⟨by rfl, ?_⟩) hHeld ?_
    · intro u hu
      go_simp
    try simp only [Act.put, List.setIfInBounds_toArray, List.set_cons_zero, List.set_cons_succ]
    refine wpAnyH_take (i := 2) (oi := { dst := some 10, op := Op.fieldAddr 74 (Operand.tmp 9) 0, type := 0, pos := _, after := #[{ on := 1, ground := Ground.data }], guard := none }) (v := .pointer (some ⟨g, 0, none⟩)) rfl (by kernel_rfl) (by kernel_rfl) (by kernel_rfl) (fun _ _ _ h => h) (Or.inl ⟨by rfl, ?_⟩) hHeld ?_
    · intro u hu
      go_simp
    try simp only [Act.put, List.setIfInBounds_toArray, List.set_cons_zero, List.set_cons_succ]
    refine wpAnyH_take (i := 3) (oi := { dst := some 11, op := Op.load 3 (Operand.tmp 10), type := 3, pos := _, after := #[{ on := 2, ground := Ground.data }], guard := none }) (v := .int .i64 Z.last) rfl (by kernel_rfl) (by kernel_rfl) (by kernel_rfl) (fun _ _ _ h => h) (Or.inl ⟨by rfl, ?_⟩) hHeld ?_
    · intro u hu
      have x1 := (H.later hu).cells.1; go_simp
    try simp only [Act.put, List.setIfInBounds_toArray, List.set_cons_zero, List.set_cons_succ]
    refine wpAnyH_take (i := 4) (oi := { dst := some 12, op := Op.move (Operand.tmp 0), type := 25, pos := _, after := #[], guard := none }) (v := .pointer (some ⟨g, 0, none⟩)) rfl (by kernel_rfl) (by kernel_rfl) (by kernel_rfl) (fun _ _ _ h => h) (Or.inl ⟨by rfl, ?_⟩) hHeld ?_
    · intro u hu
      go_simp
    try simp only [Act.put, List.setIfInBounds_toArray, List.set_cons_zero, List.set_cons_succ]
    refine wpAnyH_take (i := 5) (oi := { dst := some 13, op := Op.nilCheck (Operand.tmp 12), type := 0, pos := _, after := #[{ on := 4, ground := Ground.data }], guard := none }) (v := .pointer (some ⟨g, 0, none⟩)) rfl (by kernel_rfl) (by kernel_rfl) (by kernel_rfl) (fun _ _ _ h => h) (Or.inl ⟨by rfl, ?_⟩) hHeld ?_
    · intro u hu
      go_simp
    try simp only [Act.put, List.setIfInBounds_toArray, List.set_cons_zero, List.set_cons_succ]
    refine wpAnyH_take (i := 6) (oi := { dst := some 14, op := Op.fieldAddr 74 (Operand.tmp 13) 1, type := 0, pos := _, after := #[{ on := 5, ground := Ground.data }], guard := none }) (v := .pointer (some ⟨g, 1, none⟩)) rfl (by kernel_rfl) (by kernel_rfl) (by kernel_rfl) (fun _ _ _ h => h) (Or.inl ⟨by rfl, ?_⟩) hHeld ?_
    · intro u hu
      go_simp
    try simp only [Act.put, List.setIfInBounds_toArray, List.set_cons_zero, List.set_cons_succ]
    refine wpAnyH_take (i := 7) (oi := { dst := some 15, op := Op.load 71 (Operand.tmp 14), type := 71, pos := _, after := #[{ on := 6, ground := Ground.data }], guard := none }) (v := .map (some mp)) rfl (by kernel_rfl) (by kernel_rfl) (by kernel_rfl) (fun _ _ _ h => h) (Or.inl ⟨by rfl, ?_⟩) hHeld ?_
    · intro u hu
      have x1 := (H.later hu).cells.2.1; go_simp
    try simp only [Act.put, List.setIfInBounds_toArray, List.set_cons_zero, List.set_cons_succ]
    refine wpAnyH_ready (rs := [8, 9]) (by kernel_rfl) (by simp) ?_
    refine (AllReadyH.cons (o := { dst := some 16, op := Op.call { callee := Callee.value (Operand.func 58), args := #[Operand.tmp 15], argTypes := #[71] }, type := 71, pos := _, after := #[{ on := 7, ground := Ground.data }], guard := none }) rfl (fun K hK => ?_) (AllReadyH.cons (o := { dst := some 17, op := Op.makeMap 72 none, type := 72, pos := _, after := #[], guard := none }) rfl (fun K hK => ?_) AllReadyH.nil))
    · skip
      go_simp
      refine (cloneM_any (H.later hHeld).pm).mono ?_
      rintro e w8 ⟨mq, rfl, e8, p8, b8⟩
      try go_wp2_with fail
      have l8 := p8.lt
      have zH8 := hHeld.size
      refine hK.out _ _ (bnext hHeld b8 (Nat.le_refl _)) (fun hHeld => ?_)
      clear hK K
      have zz8 := b8.size
      try (replace p9 := p9.later b8)
      try simp only [Act.put, List.setIfInBounds_toArray, List.set_cons_zero, List.set_cons_succ]
      refine wpAnyH_ready (rs := [9]) (by kernel_rfl) (by simp) ?_
      refine (AllReadyH.cons (o := { dst := some 17, op := Op.makeMap 72 none, type := 72, pos := _, after := #[], guard := none }) rfl (fun K hK => ?_) AllReadyH.nil)
      have zH9 := hHeld.size
      refine step_mkM 72 rfl (by rfl) ?_
      intro mv w9 e9 p9 b9
      have l9 := p9.lt
      refine hK.out _ _ (bnext hHeld b9 (Nat.le_refl _)) (fun hHeld => ?_)
      clear hK K
      have zz9 := b9.size
      try (replace p8 := p8.later b9)
      try simp only [Act.put, List.setIfInBounds_toArray, List.set_cons_zero, List.set_cons_succ]
      refine wpAnyH_take (i := 10) (oi := { dst := some 18, op := Op.build 74 #[(0, Operand.tmp 11), (1, Operand.tmp 16), (2, Operand.tmp 17)], type := 74, pos := _, after := #[{ on := 3, ground := Ground.data }, { on := 8, ground := Ground.data }, { on := 9, ground := Ground.data }], guard := none }) (v := .agg [Value.int .i64 Z.last, .map (some mq), .map (some mv)].toArray) rfl (by kernel_rfl) (by kernel_rfl) (by kernel_rfl) (fun _ _ _ h => h)
        (yields_bG (by rfl) _ _ _ (by rfl) Z.last mq mv (by rfl) (by rfl) (by rfl)) hHeld ?_
      try simp only [Act.put, List.setIfInBounds_toArray, List.set_cons_zero, List.set_cons_succ]
      refine wpAnyH_ready (rs := [11]) (by kernel_rfl) (by simp) ?_
      refine (AllReadyH.cons (o := { dst := some 19, op := Op.box 74 (Operand.tmp 18), type := 25, pos := _, after := #[{ on := 10, ground := Ground.data }], guard := none }) rfl (fun K hK => ?_) AllReadyH.nil)
      have zH11 := hHeld.size
      refine step_boxC 74 rfl _ (by rfl) [Value.int .i64 Z.last, .map (some mq), .map (some mv)] (by rfl) (by simp [Value.oneCell']) ?_
      intro gq w11 e11 l11 c11 b11
      refine hK.out _ _ (bnext hHeld b11 (Nat.le_refl _)) (fun hHeld => ?_)
      clear hK K
      replace p8 := p8.later b11
      replace p9 := p9.later b11
      try simp only [Act.put, List.setIfInBounds_toArray, List.set_cons_zero, List.set_cons_succ]
      refine wpAnyH_take (i := 12) (oi := { dst := some 3, op := Op.assign (Operand.tmp 19), type := 25, pos := _, after := #[{ on := 11, ground := Ground.data }, { on := 8, ground := Ground.chain }, { on := 0, ground := Ground.phase }, { on := 1, ground := Ground.phase }, { on := 2, ground := Ground.phase }, { on := 3, ground := Ground.phase }, { on := 4, ground := Ground.phase }, { on := 5, ground := Ground.phase }, { on := 6, ground := Ground.phase }, { on := 7, ground := Ground.phase }, { on := 8, ground := Ground.phase }, { on := 9, ground := Ground.phase }, { on := 10, ground := Ground.phase }, { on := 11, ground := Ground.phase }], guard := none }) (v := .pointer (some ⟨gq, 0, none⟩)) rfl (by kernel_rfl) (by kernel_rfl) (by kernel_rfl) (fun _ _ _ h => h) (Or.inl ⟨by rfl, ?_⟩) hHeld ?_
      · intro u hu
        go_simp
      try simp only [Act.put, List.setIfInBounds_toArray, List.set_cons_zero, List.set_cons_succ]
      refine wpAnyH_done (by kernel_rfl) ?_ _
      go_wp2_with fail
      go_meet
      exact ⟨gq, mq, mv, rfl, c11, p8, p9, by omega, by omega, by omega, by omega, hHeld⟩
    · skip
      have zH9 := hHeld.size
      refine step_mkM 72 rfl (by rfl) ?_
      intro mv w9 e9 p9 b9
      have l9 := p9.lt
      refine hK.out _ _ (bnext hHeld b9 (Nat.le_refl _)) (fun hHeld => ?_)
      clear hK K
      have zz9 := b9.size
      try (replace p8 := p8.later b9)
      try simp only [Act.put, List.setIfInBounds_toArray, List.set_cons_zero, List.set_cons_succ]
      refine wpAnyH_ready (rs := [8]) (by kernel_rfl) (by simp) ?_
      refine (AllReadyH.cons (o := { dst := some 16, op := Op.call { callee := Callee.value (Operand.func 58), args := #[Operand.tmp 15], argTypes := #[71] }, type := 71, pos := _, after := #[{ on := 7, ground := Ground.data }], guard := none }) rfl (fun K hK => ?_) AllReadyH.nil)
      go_simp
      refine (cloneM_any (H.later hHeld).pm).mono ?_
      rintro e w8 ⟨mq, rfl, e8, p8, b8⟩
      try go_wp2_with fail
      have l8 := p8.lt
      have zH8 := hHeld.size
      refine hK.out _ _ (bnext hHeld b8 (Nat.le_refl _)) (fun hHeld => ?_)
      clear hK K
      have zz8 := b8.size
      try (replace p9 := p9.later b8)
      try simp only [Act.put, List.setIfInBounds_toArray, List.set_cons_zero, List.set_cons_succ]
      refine wpAnyH_take (i := 10) (oi := { dst := some 18, op := Op.build 74 #[(0, Operand.tmp 11), (1, Operand.tmp 16), (2, Operand.tmp 17)], type := 74, pos := _, after := #[{ on := 3, ground := Ground.data }, { on := 8, ground := Ground.data }, { on := 9, ground := Ground.data }], guard := none }) (v := .agg [Value.int .i64 Z.last, .map (some mq), .map (some mv)].toArray) rfl (by kernel_rfl) (by kernel_rfl) (by kernel_rfl) (fun _ _ _ h => h)
        (yields_bG (by rfl) _ _ _ (by rfl) Z.last mq mv (by rfl) (by rfl) (by rfl)) hHeld ?_
      try simp only [Act.put, List.setIfInBounds_toArray, List.set_cons_zero, List.set_cons_succ]
      refine wpAnyH_ready (rs := [11]) (by kernel_rfl) (by simp) ?_
      refine (AllReadyH.cons (o := { dst := some 19, op := Op.box 74 (Operand.tmp 18), type := 25, pos := _, after := #[{ on := 10, ground := Ground.data }], guard := none }) rfl (fun K hK => ?_) AllReadyH.nil)
      have zH11 := hHeld.size
      refine step_boxC 74 rfl _ (by rfl) [Value.int .i64 Z.last, .map (some mq), .map (some mv)] (by rfl) (by simp [Value.oneCell']) ?_
      intro gq w11 e11 l11 c11 b11
      refine hK.out _ _ (bnext hHeld b11 (Nat.le_refl _)) (fun hHeld => ?_)
      clear hK K
      replace p8 := p8.later b11
      replace p9 := p9.later b11
      try simp only [Act.put, List.setIfInBounds_toArray, List.set_cons_zero, List.set_cons_succ]
      refine wpAnyH_take (i := 12) (oi := { dst := some 3, op := Op.assign (Operand.tmp 19), type := 25, pos := _, after := #[{ on := 11, ground := Ground.data }, { on := 8, ground := Ground.chain }, { on := 0, ground := Ground.phase }, { on := 1, ground := Ground.phase }, { on := 2, ground := Ground.phase }, { on := 3, ground := Ground.phase }, { on := 4, ground := Ground.phase }, { on := 5, ground := Ground.phase }, { on := 6, ground := Ground.phase }, { on := 7, ground := Ground.phase }, { on := 8, ground := Ground.phase }, { on := 9, ground := Ground.phase }, { on := 10, ground := Ground.phase }, { on := 11, ground := Ground.phase }], guard := none }) (v := .pointer (some ⟨gq, 0, none⟩)) rfl (by kernel_rfl) (by kernel_rfl) (by kernel_rfl) (fun _ _ _ h => h) (Or.inl ⟨by rfl, ?_⟩) hHeld ?_
      · intro u hu
        go_simp
      try simp only [Act.put, List.setIfInBounds_toArray, List.set_cons_zero, List.set_cons_succ]
      refine wpAnyH_done (by kernel_rfl) ?_ _
      go_wp2_with fail
      go_meet
      exact ⟨gq, mq, mv, rfl, c11, p8, p9, by omega, by omega, by omega, by omega, hHeld⟩
  case rest =>
    obtain ⟨gq, mq, mv, rfl, cq, pq, vq, lg, lq, lv, nqv, B1⟩ := hcut
    have H1 := H.later B1
    have y2 := H1.cells.2.2
    have tok : True := trivial
    clear z0 z1 z2
    go_wp2_with (first
      | (clear tok; refine at_range' (by rfl) _ (by rfl) (by rfl) (mp_range H1.wm uWm) ?_; rintro w2 ⟨cnt, hrg, hk2, hz2⟩))
    go_frame
    obtain ⟨r, hr⟩ : ∃ r, r = wc.heap.size := ⟨_, rfl⟩
    rw [← hr] at hrg ⊢
    have b2 : Below wc.heap.size wc w2 := hk2.below (Nat.le_refl _) (fun _ e => e.elim)
    have lgq := cq.lt
    have lmq := pq.lt
    have lmv := vq.lt
    have B2 := bnext B1 b2 (Nat.le_refl _)
    have start : CpI w w2 w2 mw r mq mv gq Z f fw (fun k => (fw k).isSome) cnt (fun _ => none) :=
      ⟨hrg, vq.later b2, pq.later b2, cq.later b2, (fun s h1 h2 => by rw [h1] at h2; cases h2), fun _ _ => rfl, (fun s s' v v' x h => by cases h), B2, Nat.le_refl _⟩
    have hr2 : r < w2.heap.size := by omega
    have hwr : w.heap.size ≤ r := by have := B1.size; omega
    have hrn : r ≠ gq ∧ r ≠ mq ∧ r ≠ mv := ⟨by omega, by omega, by omega⟩
    have hl2 : gq < w2.heap.size ∧ mq < w2.heap.size ∧ mv < w2.heap.size := ⟨by omega, by omega, by omega⟩
    clear hrg hz2 hk2 hr y2 b2 cq pq vq lgq lmq lmv
    go_loopw [4, 5] (fun _ _ wr => ∃ left cnt fv, CpI w w2 wr mw r mq mv gq Z f fw left cnt fv) (fun _ _ wr => wr.rangeLeft mw r)
    case atStart => exact ⟨_, _, _, start⟩
    case round =>
      clear start
      obtain ⟨left, cnt, fv, I⟩ := hrel
      have hmwlt : mw < w.heap.size := H.wm.lt
      have t1 : True := trivial
      go_wp2_with (first
        | (clear t1; refine at_next' (by rfl) _ (by rfl) (by rfl) I.rg (fun hl => ?_) (fun k v w3 cnt3 hwf hlk hfk3 hrg3 hc3 hs3 hz3 hen => ?_)
           rotate_left
           have hzz : Hid (w3.heap.size = wr.heap.size) := hz3
           have hne : wts Z.l k ≠ [] := fun e => by rw [H.wn k e] at hfk3; cases hfk3
           have B3 : Below w.heap.size w w3 := ((Stp.of_below I.b (fun _ => False)).next hs3 (fun x e => .inr (by omega))).below (Nat.le_refl _) (fun x e => e.elim)
           obtain ⟨v1, e1, o1, _⟩ := H.ws k hne
           have ev : v1 = v := by rw [hfk3] at e1; injection e1 with e1; exact e1.symm
           subst ev
           have o3 := o1.later B3
           obtain ⟨va, vn, vc, rfl⟩ := o3.shape
           clear hz3))
      · have c3 := I.c.step hs3 (fun e => hrn.1 e.symm)
        have mm3 := I.mm.step hs3 (fun e => hrn.2.2 e.symm)
        have pm3 := I.pm.step hs3 (fun e => hrn.2.1 e.symm)
        have hfew := H.ok.fewW k
        have hwl := wts_len Z.l k
        have hwfs : ∀ x ∈ wts Z.l k, wfi x := fun x hx => by
          obtain ⟨p, q1, q2, _⟩ := wts_mem.1 hx
          rw [← q2]; exact (H.ok.wfp q1).i
        have hkv : ∀ s, (fv s).isSome → 0 ≤ s ∧ s < 2048 := fun s hs => by
          cases hv : fv s with
          | none => rw [hv] at hs; cases hs
          | some v => exact H.keysW s (I.some hv).1
        have hkw : wfi k := hwf
        have hk0 : fv k = none := I.no k (.inr hlk)
        have oth : ∀ s v', fv s = some v' → OwV w3 v' (wts Z.l s) ∧ ∀ x, v'.ownBlock = some x → w2.heap.size ≤ x ∧ x < wr.heap.size := fun s v' hv => by
          obtain ⟨_, k2, k3⟩ := I.some hv
          exact ⟨k2.step hs3 (fun x hx e => by have := k3 x hx; omega), fun x hx => ⟨k3 x hx, k2.lt hx⟩⟩
        have zz := hzz.out
        have zz' : Hid (w3.heap.size = wr.heap.size) := zz
        have hsz := I.sz
        have hnl : (wts Z.l k).length ≤ 100000 := by rw [hwl]; omega
        clear zz hwl hzz o1 e1 hfk3
        refine wp_region_last (S := fun u => Below w3.heap.size w3 u) _ _ (by simp only [List.pop_toArray, List.dropLast_cons_cons, List.dropLast_singleton]; rfl) (by simp only [List.back?_toArray, List.getLast?_cons_cons, List.getLast?_singleton]; rfl) (by kernel_rfl) (by kernel_rfl) (Below.refl _ _).drew (fun hHeld => ?_)
        refine wpAnyH_take (i := 0) (oi := { dst := some 30, op := Op.move (Operand.tmp 3), type := 25, pos := _, after := #[], guard := none }) (v := .pointer (some ⟨gq, 0, none⟩)) rfl (by kernel_rfl) (by kernel_rfl) (by kernel_rfl) (fun _ _ _ h => h) (Or.inl ⟨by rfl, ?_⟩) hHeld ?_
        · intro u hu
          go_simp
        try simp only [Act.put, List.setIfInBounds_toArray, List.set_cons_zero, List.set_cons_succ]
        refine wpAnyH_take (i := 1) (oi := { dst := some 31, op := Op.nilCheck (Operand.tmp 30), type := 0, pos := _, after := #[{ on := 0, ground := Ground.data }], guard := none }) (v := .pointer (some ⟨gq, 0, none⟩)) rfl (by kernel_rfl) (by kernel_rfl) (by kernel_rfl) (fun _ _ _ h => h) (Or.inl ⟨by rfl, ?_⟩) hHeld ?_
        · intro u hu
          go_simp
        try simp only [Act.put, List.setIfInBounds_toArray, List.set_cons_zero, List.set_cons_succ]
        refine wpAnyH_take (i := 2) (oi := { dst := some 32, op := Op.fieldAddr 74 (Operand.tmp 31) 2, type := 0, pos := _, after := #[{ on := 1, ground := Ground.data }], guard := none }) (v := .pointer (some ⟨gq, 2, none⟩)) rfl (by kernel_rfl) (by kernel_rfl) (by kernel_rfl) (fun _ _ _ h => h) (Or.inl ⟨by rfl, ?_⟩) hHeld ?_
        · intro u hu
          go_simp
        try simp only [Act.put, List.setIfInBounds_toArray, List.set_cons_zero, List.set_cons_succ]
        refine wpAnyH_take (i := 3) (oi := { dst := some 33, op := Op.load 72 (Operand.tmp 32), type := 72, pos := _, after := #[{ on := 2, ground := Ground.data }], guard := none }) (v := .map (some mv)) rfl (by kernel_rfl) (by kernel_rfl) (by kernel_rfl) (fun _ _ _ h => h) (Or.inl ⟨by rfl, ?_⟩) hHeld ?_
        · intro u hu
          have x1 := (c3.later hu).cell 2 _ rfl; go_simp
        try simp only [Act.put, List.setIfInBounds_toArray, List.set_cons_zero, List.set_cons_succ]
        refine wpAnyH_take (i := 4) (oi := { dst := some 34, op := Op.move (Operand.tmp 4), type := 3, pos := _, after := #[], guard := none }) (v := .int .i64 k) rfl (by kernel_rfl) (by kernel_rfl) (by kernel_rfl) (fun _ _ _ h => h) (Or.inl ⟨by rfl, ?_⟩) hHeld ?_
        · intro u hu
          go_simp
        try simp only [Act.put, List.setIfInBounds_toArray, List.set_cons_zero, List.set_cons_succ]
        refine wpAnyH_take (i := 5) (oi := { dst := some 35, op := Op.move (Operand.tmp 5), type := 23, pos := _, after := #[], guard := none }) (v := .slice va vn vc) rfl (by kernel_rfl) (by kernel_rfl) (by kernel_rfl) (fun _ _ _ h => h) (Or.inl ⟨by rfl, ?_⟩) hHeld ?_
        · intro u hu
          go_simp
        try simp only [Act.put, List.setIfInBounds_toArray, List.set_cons_zero, List.set_cons_succ]
        refine wpAnyH_ready (rs := [6]) (by kernel_rfl) (by simp) ?_
        refine (AllReadyH.cons (o := { dst := some 36, op := Op.call { callee := Callee.value (Operand.func 59), args := #[Operand.tmp 35], argTypes := #[23] }, type := 23, pos := _, after := #[{ on := 5, ground := Ground.data }], guard := none }) rfl (fun K hK => ?_) AllReadyH.nil)
        go_simp
        refine (clone_own (o3.later hHeld) hne hwfs hnl).mono ?_
        rintro e w8 ⟨v8, rfl, o8, n8, b8⟩
        try go_wp2_with fail
        have zH := hHeld.size
        refine hK.out _ _ (bnext hHeld b8 (Nat.le_refl _)) (fun hHeld => ?_)
        clear hK K
        try simp only [Act.put, List.setIfInBounds_toArray, List.set_cons_zero, List.set_cons_succ]
        refine wpAnyH_done (by kernel_rfl) ?_ _
        show wpList _ _ _ [_] _ _
        have B8 : Below w3.heap.size w3 w8 := hHeld
        refine at_updM 72 23 uWm (by rfl) _ _ _ (by rfl) mv fv (by rfl) k (by rfl) v8 (by rfl) (mm3.later B8) hkv hkw ?_
        intro w10 m10 s10
        have zz := zz'.out
        have zB8 := B8.size
        have z10 := s10.size
        have lmv : mv < w2.heap.size := hl2.2.2
        have hmv8 : v8.ownBlock ≠ some mv := fun e => by have := n8 mv e; omega
        have B10 : Below w.heap.size w w10 := ((Stp.of_below (bnext B3 B8 (Nat.le_refl _)) (fun _ => False)).next s10 (fun x e => .inr (by omega))).below (Nat.le_refl _) (fun x e => e.elim)
        have rg10 := (hrg3.step (Stp.of_below B8 (fun _ => False)) id id).step s10 (fun e => by omega) (fun e => hrn.2.2 e)
        have I10 : CpI w w2 w10 mw r mq mv gq Z f fw (fun x => left x && !decide (x = k)) cnt3 (upd fv k (some v8)) := by
          refine ⟨rg10, m10, (pm3.later B8).step s10 nqv, (c3.later B8).step s10 (fun e => (c3.later B8).notMap (mm3.later B8) e), fun s h1 h2 => ?_, fun s h1 => ?_, fun s s' v v' x h1 h2 h3 h4 => ?_, B10, by omega⟩
          · by_cases e : s = k
            · subst e
              refine ⟨v8, by simp [upd], o8.step s10 (fun x hx e => by have := n8 x hx; omega), fun x hx => by have := n8 x hx; omega⟩
            · have h3 : left s = false := by simpa [e] using h2
              obtain ⟨v', k1, _, _⟩ := I.yes s h1 h3
              obtain ⟨k2, k3⟩ := oth s v' k1
              exact ⟨v', by simp [upd, e, k1], (k2.later B8).step s10 (fun x hx e => by have := (k3 x hx).1; omega), fun x hx => (k3 x hx).1⟩
          · have e : s ≠ k := fun e => by
              subst e
              rcases h1 with h1 | h1
              · have hk2 := H.wm
                obtain ⟨v1, e1, _⟩ := H.ws s hne
                rw [e1] at h1; cases h1
              · simp at h1
            have h2 : (fw s).isSome = false ∨ left s = true := h1.imp id (fun h => by simpa [e] using h)
            simp [upd, e, I.no s h2]
          · have key : ∀ s v, upd fv k (some v8) s = some v → s = k ∧ v = v8 ∨ s ≠ k ∧ fv s = some v := fun s v h => by
              by_cases e : s = k
              · left; refine ⟨e, ?_⟩; subst e; simp [upd] at h; exact h.symm
              · right; exact ⟨e, by simpa [upd, e] using h⟩
            rcases key s v h1 with ⟨e1, e2⟩ | ⟨e1, e2⟩ <;> rcases key s' v' h2 with ⟨e3, e4⟩ | ⟨e3, e4⟩
            · rw [e1, e3]
            · subst e2; have := n8 x h3; have := ((oth s' v' e4).2 x h4).2; omega
            · subst e4; have := n8 x h4; have := ((oth s v e2).2 x h3).2; omega
            · exact I.ap s s' v v' x e2 e4 h3 h4
        clear hHeld
        simp only [Act.put]
        go_wp2_with fail
        go_roundw
        case rel => exact ⟨_, _, _, I10⟩
        case measure => rw [rg10.left_eq, I.rg.left_eq]; exact hc3
      · go_returns
        have hfv : ∀ s, (fw s).isSome = true → ∃ v', fv s = some v' ∧ OwV wr v' (wts Z.l s) ∧ ∀ x, v'.ownBlock = some x → w2.heap.size ≤ x := fun s hs => I.yes s hs (hl s)
        refine ⟨gq, (fun x => x = gq ∨ x = mq ∨ x = mv ∨ ∃ s v, fv s = some v ∧ v.ownBlock = some x), rfl, ⟨mq, mv, f, fv, ⟨I.c, I.pm, I.mm, fun i p hp => ?_, H.pn, fun s hs => ?_, fun s hs => ?_, I.ap, .inl rfl, .inr (.inl rfl), .inr (.inr (.inl rfl)), nqv, fun x hx => ?_, fun x hx => ?_, fun x hx hf => ?_, H.ok⟩⟩, fun x hx => ?_, I.b⟩
        · obtain ⟨d, n, h1, h2⟩ := (H.later I.b).ps i p hp
          exact ⟨d, n, h1, h2⟩
        · obtain ⟨v1, e1, _⟩ := H.ws s hs
          obtain ⟨v', k1, k2, k3⟩ := hfv s (by rw [e1]; rfl)
          exact ⟨v', k1, k2, fun x hx => ⟨.inr (.inr (.inr ⟨s, v', k1, hx⟩)), by have := k3 x hx; omega⟩⟩
        · exact I.no s (.inl (by rw [H.wn s hs]; rfl))
        · rcases hx with rfl | rfl | rfl | ⟨s, v, h1, h2⟩
          · exact I.c.lt
          · exact I.pm.lt
          · exact I.mm.lt
          · exact (I.some h1).2.1.lt h2
        · exact Nat.lt_of_lt_of_le (H.el x hx) I.b.size
        · have := H.el x hx
          rcases hf with rfl | rfl | rfl | ⟨s, v, h1, h2⟩
          · omega
          · omega
          · omega
          · have := (I.some h1).2.2 x h2; have := B2.size; omega
        · rcases hx with rfl | rfl | rfl | ⟨s, v, h1, h2⟩
          · exact lg
          · exact lq
          · exact lv
          · have := (I.some h1).2.2 x h2; have := B2.size; omega
end Go.Proofs.Ytdfifneikmlmoaa
namespace Go.Proofs.Ytdfifneikmlmoaa
open Go.ChangeShapes Go.WideShapes Go.ChangeAt Go.RowKit
set_option linter.unusedVariables false
set_option linter.unusedSimpArgs false

def lenV : Value → Nat
  | .slice _ n _ => n
  | _ => 0
theorem btL_succ (is : List Int) (Z : GZ) (k : Nat) : btL is Z (k + 1) = btL is Z k ++ [nxB is (Z.aft is k).l] := by
  unfold btL
  rw [List.range_succ, List.map_append]; rfl
theorem btL_len (is : List Int) (Z : GZ) (k : Nat) : (btL is Z k).length = k := by unfold btL; simp
theorem Ends.more {is : List Int} {Z : GZ} {n k : Nat} (h : Ends is Z n) (hk : k ≤ n) : mor is (Z.aft is k).l = decide (k < n) := by
  by_cases e : k < n
  · rw [mor_yes (h.2 k e)]; simp [e]
  · have : k = n := by omega
    subst this
    rw [(mor_no h.1).1]; simp
theorem aft_len {Z : GZ} {t : Int} (h : Z.ok t) (is : List Int) : ∀ k, (Z.aft is k).l.length ≤ Z.l.length
  | 0 => Nat.le_refl _
  | k + 1 => Nat.le_trans (car_len (aft_ok h is k).srt _) (aft_len h is k)
theorem Gh.stp {w w' : World} {g : Nat} {Z : GZ} {E F X : Nat → Prop} (h : Gh w g Z E F) (k : Stp X w w') (hF : ∀ x, F x → ¬ X x) (hE : ∀ x, E x → ¬ X x) : Gh w' g Z E F := by
  obtain ⟨_, _, _, _, h⟩ := h
  exact ⟨_, _, _, _, h.step k hF hE⟩
/-- On the way. -/
structure BaI (w w1 wr : World) (gc : Nat) (Z : GZ) (is : List Int) (E F : Nat → Prop) (k gb : Nat) (v vl : Value) (L : List Be) : Prop where
  gh : Gh wr gc (Z.aft is k) E F
  cb : Cs wr gb (btc v (frS (bsS is (Z.aft is k).l) (Z.aft is k).l))
  gN : w1.heap.size ≤ gb
  ov : OwV wr v (bsS is (Z.aft is k).l)
  nv : New w1.heap.size v
  bt : BtI wr 36 w1.heap.size vl L
  eL : L.map Be.bt = btL is Z k
  b : Below w.heap.size w wr
  sz : w1.heap.size ≤ wr.heap.size
  ne : ∀ r, vl.ownBlock = some r → r ≠ gb
set_option maxRecDepth 100000 in
set_option maxHeartbeats 4000000 in
theorem batches_any {w : World} {g mp mw : Nat} {f fw : Int → Option Value} {Z : GZ} {E F : Nat → Prop} (H : Gr w g mp mw f fw Z E F) {s : Sv} {is : List Int} (hs : InsS w s is) (hl : is.length ≤ 1000) (hzl : Z.l.length ≤ 100) (hn6 : ∀ p ∈ Z.l, p.needs.length ≤ 6) {n : Nat} (hn : Ends is Z n) (hn1 : n ≤ 100) :
    Calls Try.prog 10 #[.pointer (some ⟨g, 0, none⟩), .slice s.a s.n s.c] w fun e w' => ∃ v, e = .returned v ∧ BtS w' 36 w.heap.size v (btL is Z n) ∧ Below w.heap.size w w' := by
  have hok := H.ok
  have hCp := copy_any H
  have hNx := fun (u : World) (gc : Nat) (E F : Nat → Prop) (k : Nat) (hg : Gh u gc (Z.aft is k) E F) (hb : Below w.heap.size w u) => show Calls Try.prog 15 #[.pointer (some ⟨gc, 0, none⟩), .slice s.a s.n s.c] u fun e w' => ∃ v, e = .returned (.tuple #[.agg (btc v (frS (bsS is (Z.aft is k).l) (Z.aft is k).l)).toArray, .bool (mor is (Z.aft is k).l)]) ∧ OwV w' v (bsS is (Z.aft is k).l) ∧ New u.heap.size v ∧ Below u.heap.size u w' from by
    obtain ⟨_, _, _, _, hg⟩ := hg
    exact next_any hg (hs.later hb) hl (Nat.le_trans (aft_len hok is k) hzl) (fun p hp => hn6 p (aft_sub hok is k hp))
  have hNx' : Hid (∀ (u : World) (gc : Nat) (E F : Nat → Prop) (k : Nat), Gh u gc (Z.aft is k) E F → Below w.heap.size w u → Calls Try.prog 15 #[.pointer (some ⟨gc, 0, none⟩), .slice s.a s.n s.c] u fun e w' => ∃ v, e = .returned (.tuple #[.agg (btc v (frS (bsS is (Z.aft is k).l) (Z.aft is k).l)).toArray, .bool (mor is (Z.aft is k).l)]) ∧ OwV w' v (bsS is (Z.aft is k).l) ∧ New u.heap.size v ∧ Below u.heap.size u w') := hNx
  clear hNx
  have t1 : True := trivial
  have t2 : True := trivial
  go_enter Try.func10, Try.ntmps10
  go_wp2_with (first
    | (go_at_call 33; refine hCp.mono ?_; rintro e w1 ⟨gc, F', rfl, gh1, hF1, b1⟩; clear hCp)
    | (go_at_call 15; refine (hNx'.out _ gc E F' 0 gh1 b1).mono ?_; rintro e w2 ⟨v2, rfl, o2, n2, b2⟩
       have o2' : OwV w2 v2 (bsS is (Z.aft is 0).l) := o2
       have hv1 := o2.one)
    | (clear t1; refine at_newBt (by rfl) (by rfl) ?_; intro g3 w3 a3 a4 r3 b3)
    | (clear t2; refine at_putBt (by rfl) _ _ (by rfl) g3 (by rfl) v2 hv1 _ (by rfl) _ r3 rfl ?_; intro w4 r4 s4))
  have hFlt : ∀ x, F' x → w.heap.size ≤ x ∧ x < w1.heap.size := fun x hx => ⟨hF1 x hx, by obtain ⟨_, _, _, _, hg⟩ := gh1; exact hg.lt x hx⟩
  have hElt : ∀ x, E x → x < w1.heap.size := by obtain ⟨_, _, _, _, hg⟩ := gh1; exact hg.el
  have hw1 : w.heap.size ≤ w1.heap.size := b1.size
  have B24 : Below w2.heap.size w2 w4 := ((Stp.of_below b3 (fun _ => False)).next s4 (fun x e => .inr (by omega))).below (Nat.le_refl _) (fun x e => e.elim)
  have B14 := bnext b2 B24 (Nat.le_refl _)
  have start : BaI w w1 w4 gc Z is E F' 0 g3 v2 (.slice none 0 0) [] := ⟨Gh.later gh1 B14, r4, by have := b2.size; omega, o2.later B24, n2, BtI.nil _ _ _, rfl, bnext b1 B14 (Nat.le_refl _), B14.size, (fun r e => by cases e)⟩
  have hm0 : mor is (Z.aft is 0).l = decide (0 < n) := hn.more (Nat.zero_le _)
  have hm0' : Hid (mor is (Z.aft is 0).l = decide (0 < n)) := hm0
  clear hm0 b2 b3 s4 r3 r4 o2 o2' n2 B24 B14 gh1 hF1 a3 a4
  go_loopw [6, 7, 8] (fun vl u m wr => ∃ k gb v L, k ≤ n ∧ u = .pointer (some ⟨gb, 0, none⟩) ∧ m = .bool (decide (k < n)) ∧ BaI w w1 wr gc Z is E F' k gb v vl L) (fun vl _ _ _ => n - lenV vl)
  case atStart => exact ⟨0, g3, v2, [], Nat.zero_le _, rfl, by rw [hm0'.out], start⟩
  case round =>
    clear start
    obtain ⟨k, gb, v, L, hk, rfl, rfl, I⟩ := hrel
    have hLk : L.length = k := by have := congrArg List.length I.eL; rw [List.length_map, btL_len] at this; exact this
    obtain ⟨la, lc, hlv, -⟩ := I.bt.shape
    subst hlv
    by_cases hlt : k < n
    · have hd : decide (k < n) = true := by simpa using hlt
      rw [hd]
      have hokk := aft_ok hok is k
      have hwfb := bsS_wfi hokk is
      have hlb := bsS_len hokk is
      obtain ⟨⟨va, vn, vc⟩, e4, -, iv, ev⟩ := I.ov.ins hwfb I.nv
      subst e4
      have hbt := I.bt
      have hcb := I.cb
      have hgh := I.gh
      have hov := I.ov
      have hnv := I.nv
      have hnl : ∀ p ∈ (Z.aft is k).l, p.needs.length ≤ 100000 := fun p hp => by have := hn6 p (aft_sub hok is k hp); omega
      have hlb2 : (bsS is (Z.aft is k).l).length ≤ 400 := by
        have h3 := aft_len hok is k
        have h4 := bsS_few hokk is
        omega
      have e1 : Hid (Z.aft is (k + 1) = (Z.aft is k).car (bsS is (Z.aft is k).l)) := by show _ = _; rfl
      have e2 : Hid (btL is Z (k + 1) = btL is Z k ++ [⟨bsS is (Z.aft is k).l, frS (bsS is (Z.aft is k).l) (Z.aft is k).l⟩]) := btL_succ is Z k
      have hmk : Hid (mor is (Z.aft is (k + 1)).l = decide (k + 1 < n)) := hn.more (by omega)
      have heL := I.eL
      have hb := I.b
      have hsz := I.sz
      have hgN := I.gN
      have hgl := I.cb.lt
      have hIne := I.ne
      have hrne : ∀ r, (Value.slice la L.length lc).ownBlock = some r → r ≠ gb ∧ (∀ r', (Value.slice va vn vc).ownBlock = some r' → r' ≠ r) := fun r hr => by
        obtain ⟨c1, h1⟩ := ro_ty hbt.ow hr
        refine ⟨fun e => ?_, fun r' hr' e => ?_⟩
        · exact hIne r hr e
        · subst e
          obtain ⟨c2, h2⟩ := ro_ty (show wr.ownsRow 0 3 1 _ _ _ from hov) hr'
          rw [h1] at h2; injection h2 with h2; injection h2 with _ h3; cases h3
      generalize bsS is (Z.aft is k).l = S at *
      generalize hZk : Z.aft is k = Zk at *
      generalize frS S Zk.l = fr at *
      have hN1 := hNx'.out
      have t1 : Hid True := trivial
      have t2 : Hid True := trivial
      have t3 : Hid True := trivial
      have t4 : Hid True := trivial
      have t5 : Hid True := trivial
      have t6 : Hid True := trivial
      have t7 : Hid True := trivial
      have hbL : L.length + 1 ≤ 1000000 := by omega
      have hbL' : Hid (L.length + 1 ≤ 1000000) := hbL
      have hLk' : Hid (L.length = k) := hLk
      have hN1' : Hid (∀ (u : World) (gc : Nat) (E F : Nat → Prop), Gh u gc (Z.aft is (k + 1)) E F → Below w.heap.size w u → Calls Try.prog 15 #[.pointer (some ⟨gc, 0, none⟩), .slice s.a s.n s.c] u fun e w' => ∃ v, e = .returned (.tuple #[.agg (btc v (frS (bsS is (Z.aft is (k + 1)).l) (Z.aft is (k + 1)).l)).toArray, .bool (mor is (Z.aft is (k + 1)).l)]) ∧ OwV w' v (bsS is (Z.aft is (k + 1)).l) ∧ New u.heap.size v ∧ Below u.heap.size u w') := fun u gc E F => hN1 u gc E F (k + 1)
      have hZk1 : Hid (Z.aft is (k + 1) = Zk.car S) := e1.out
      clear hbL hLk hN1 I hd e1 hZk
      generalize hZ1 : Z.aft is (k + 1) = Z1 at *
      have hZ1' : Hid (Z.aft is (k + 1) = Z1) := hZ1
      clear hZ1
      generalize hS1 : bsS is Z1.l = S1 at *
      generalize hf1 : frS S1 Z1.l = fr1 at *
      generalize hm1 : mor is Z1.l = m1 at *
      have hS1' : Hid (bsS is Z1.l = S1) := hS1
      have hf1' : Hid (frS S1 Z1.l = fr1) := hf1
      clear hS1 hf1 hm1
      go_wp2_with (first
        | (clear t1; refine at_getBt (by rfl) _ (by rfl) gb (by rfl) (.slice va vn vc) fr hcb ?_)
        | (clear t2; refine at_bsB btP _ (by rfl) (by rfl) ⟨⟨va, vn, vc⟩, S, fr⟩ (by rfl) ?_
           have b2 : Below wr.heap.size wr (wr.alloc (.cells (Be.cs ⟨⟨va, vn, vc⟩, S, fr⟩).toArray 36)) := (Below.refl _ wr).alloc (Nat.le_refl _) _)
        | (at_builtin; refine at_appR btP.el w1.heap.size rfl _ _ (by rfl) (by rfl) (hbt.later b2).ow hbt.nw (some ⟨wr.heap.size, 0, none⟩) 1 (Be.cs ⟨⟨va, vn, vc⟩, S, fr⟩) (by rfl) rfl (fun e => by cases e) (fun ad e => by injection e with e; subst e; exact cell_newB _ _ _) (Be.cs_one _) hbL'.out (Nat.le_trans hsz b2.size) ?_
           intro v3 w3 hA
           have bt3 := (hbt.later b2).app (t := ⟨⟨va, vn, vc⟩, S, fr⟩) (by decide) hA (hov.later b2) hnv hwfb
           have sA := (hA.2.2.2.1)
           have hA3 := hA.2.2.1
           have s3 : Stp (fun x => (Value.slice la L.length lc).ownBlock = some x) wr w3 := (Stp.of_below b2 _).trans sA
           have hcb3 := hcb.step s3 (fun e => (hrne gb e).1 rfl)
           have iv3 := iv.step (E := fun x => (Value.slice va vn vc).ownBlock = some x) s3 (fun ad e hn => by have e' : va = some ad := e; subst e'; rfl) (fun x hx e => (hrne x e).2 x hx rfl)
           have gh3 : Gh w3 gc Zk E F' := hgh.stp s3 (fun x hx e => by have := (hFlt x hx).2; have := hbt.nw x e; omega) (fun x hx e => by have := hElt x hx; have := hbt.nw x e; omega)
           have hCa := carry_any gh3 hnl iv3 ev (fun x hx hf => by have := (hFlt x hf).2; have := hx.1; omega) hlb2 fr
           have B3 : Below w.heap.size w w3 := hb.trans (s3.below hb.size (fun x e => by have := hbt.nw x e; have := hw1; omega))
           clear hA sA)
        | (clear t3; refine at_getBt (by rfl) _ (by rfl) gb (by rfl) (.slice va vn vc) fr hcb3 ?_)
        | (go_at_call 12; refine hCa.mono ?_; rintro e w5 ⟨v5, rfl, -, -, g5, s5⟩; clear hCa
           have hcb5 := hcb3.step s5 (fun e => by have := (hFlt gb e).2; omega)
           have bt5 := bt3.step s5 (fun x e => .inl (hFlt x e).2)
           have B5 : Below w.heap.size w w5 := B3.trans (s5.below B3.size (fun x e => (hFlt x e).1)))
        | (clear t4; refine at_getBt (by rfl) _ (by rfl) gb (by rfl) (.slice va vn vc) fr hcb5 ?_)
        | (clear t5; refine at_newBt (by rfl) (by rfl) ?_; intro g6 w6 a6 a6' r6 b6)
        | (clear t6; refine at_putBt (by rfl) _ _ (by rfl) g6 (by rfl) (.slice va vn vc) rfl fr (by rfl) _ r6 rfl ?_; intro w7 r7 s7
           have B57 : Below w5.heap.size w5 w7 := ((Stp.of_below b6 (fun _ => False)).next s7 (fun x e => .inr (by omega))).below (Nat.le_refl _) (fun x e => e.elim)
           have B7 := bnext B5 B57 (Nat.le_refl _)
           have gh7 : Gh w7 gc Z1 E F' := by rw [hZk1.out]; exact Gh.later g5 B57
           have hN7 := hN1'.out _ gc E F' gh7 B7)
        | (go_at_call 15; refine hN7.mono ?_; rintro e w8 ⟨v8, rfl, o8, n8, b8⟩; clear hN7
           have hv8 := o8.one
           have r8 := r7.later b8)
        | (clear t7; refine at_putBt (by rfl) _ _ (by rfl) g6 (by rfl) v8 hv8 fr1 (by rfl) _ r8 rfl ?_; intro w9 r9 s9))
      have z3 := s3.size
      have z5 := s5.size
      have z57 := B57.size
      have z8 := b8.size
      have l7 := r7.lt
      have B59 : Below w5.heap.size w5 w9 := ((Stp.of_below (bnext B57 b8 (Nat.le_refl _)) (fun _ => False)).next s9 (fun x e => .inr (by omega))).below (Nat.le_refl _) (fun x e => e.elim)
      have J : BaI w w1 w9 gc Z is E F' (k + 1) g6 v8 v3 (L ++ [⟨⟨va, vn, vc⟩, S, fr⟩]) := by
        refine ⟨?_, ?_, by omega, ?_, fun r hr => by have := n8 r hr; omega, bt5.later B59, ?_, bnext B5 B59 (Nat.le_refl _), by have := B59.size; omega, fun r hr e => by have := (bt5.ow.lt r hr).2; omega⟩
        · rw [hZ1'.out, hZk1.out]; exact Gh.later g5 B59
        · rw [hZ1'.out, hS1'.out, hf1'.out]; exact r9
        · rw [hZ1'.out, hS1'.out]; exact o8.step s9 (fun r hr e => by have := n8 r hr; omega)
        · rw [List.map_append, heL, e2.out]; rfl
      obtain ⟨xa, xc, hx3, -⟩ := bt3.shape
      subst hx3
      go_wp2_with fail
      go_roundw
      case rel => exact ⟨k + 1, g6, v8, _, by omega, rfl, by rw [hmk.out], J⟩
      case measure => simp [lenV]; have := hLk'.out; omega
    · have hk' : k = n := by omega
      subst hk'
      have hd : decide (k < k) = false := by simp
      rw [hd]
      have J := I.bt.mono (Nat.le_trans (Nat.le_refl _) hw1)
      have heL := I.eL
      have hb := I.b
      clear I hd
      go_wp2_with fail
      go_returns
      exact ⟨_, rfl, ⟨L, heL, J⟩, hb⟩
end Go.Proofs.Ytdfifneikmlmoaa
namespace Go.Proofs.Ytdfifneikmlmoaa
open Go.ChangeShapes Go.WideShapes Go.ChangeAt Go.RowKit
set_option linter.unusedVariables false
set_option linter.unusedSimpArgs false

theorem two_ends : Ends [2] zB 2 := by
  refine ⟨List.isEmpty_iff.1 (by decide), fun k hk e => ?_⟩
  have h0 : k = 0 ∨ k = 1 := by omega
  have h1 := List.isEmpty_iff.2 e
  rcases h0 with rfl | rfl
  · have : (nd [2] (zB.aft [2] 0).l).isEmpty = false := by decide
    rw [this] at h1; cases h1
  · have : (nd [2] (zB.aft [2] 1).l).isEmpty = false := by decide
    rw [this] at h1; cases h1
theorem two_list : btL [2] zB 2 = [⟨[3], true⟩, ⟨[4], true⟩] := by
  have h0 : bsS [2] (zB.aft [2] 0).l = [3] := by decide
  have h1 : bsS [2] (zB.aft [2] 1).l = [4] := by decide
  have h2 : frS [3] (zB.aft [2] 0).l = true := by decide
  have h3 : frS [4] (zB.aft [2] 1).l = true := by decide
  rw [show (2 : Nat) = 1 + 1 from rfl, btL_succ, show (1 : Nat) = 0 + 1 from rfl, btL_succ]
  unfold nxB
  rw [h0, h1, h2, h3]; rfl
theorem bts_two {w : World} {T : TypeId} {N : Nat} {v : Value} {A B : List Int} {x y : Bool} (h : BtS w T N v [⟨A, x⟩, ⟨B, y⟩]) : ∃ (b c : Nat) (s0 s1 : Sv), v = .slice (some ⟨b, 0, none⟩) 2 c ∧ w.cell? ⟨b, 0, none⟩ = some (.slice s0.a s0.n s0.c) ∧ w.cell? ⟨b, 1, none⟩ = some (.bool x) ∧ w.cell? ⟨b, 2, none⟩ = some (.slice s1.a s1.n s1.c) ∧ w.cell? ⟨b, 3, none⟩ = some (.bool y) ∧ InsS w s0 A ∧ InsS w s1 B := by
  obtain ⟨L, e, I⟩ := h
  match L, e with
  | [t0, t1], e =>
    simp only [List.map_cons, List.map_nil] at e
    injection e with e0 e
    injection e with e1 _
    injection e0 with e2 e3
    injection e1 with e4 e5
    subst e2; subst e3; subst e4; subst e5
    obtain ⟨a, c, rfl, _⟩ := I.shape
    obtain ⟨b, rfl, r0⟩ := I.el' 0 (by simp)
    obtain ⟨b', e', r1⟩ := I.el' 1 (by simp)
    injection e' with e'; injection e' with e'
    subst e'
    have h0 := I.el t0 (by simp)
    have h1 := I.el t1 (by simp)
    refine ⟨b, c, t0.s, t1.s, rfl, r0 0 _ rfl, r0 1 _ rfl, r1 0 _ rfl, r1 1 _ rfl, ?_, ?_⟩
    · obtain ⟨s, k1, _, k3, _⟩ := h0.1.ins h0.2.2 h0.2.1
      obtain ⟨s1, s2, s3⟩ := s
      injection k1 with k1 k2 k4
      simp only at k1 k2 k4
      subst k1; subst k2; subst k4
      exact k3
    · obtain ⟨s, k1, _, k3, _⟩ := h1.1.ins h1.2.2 h1.2.1
      obtain ⟨s1, s2, s3⟩ := s
      injection k1 with k1 k2 k4
      simp only at k1 k2 k4
      subst k1; subst k2; subst k4
      exact k3
set_option maxRecDepth 100000 in
set_option maxHeartbeats 4000000 in
theorem works16_any (w : World) : Calls Try.prog 6 #[] w fun e w' => e = .returned (.bool true) ∧ Below w.heap.size w w' := by
  have t1 : Hid True := trivial
  have t2 : Hid True := trivial
  have t3 : Hid True := trivial
  have t4 : Hid True := trivial
  have t5 : Hid True := trivial
  have t6 : Hid True := trivial
  have t7 : Hid True := trivial
  have f1 : GZ.new.addN pA = 1 := by decide
  have f2 : GZ.new.addE pA = 0 := by decide
  have f3 : zA.addN pB = 2 := by decide
  have f4 : zA.addE pB = 0 := by decide
  have f9 : ids zB.l = [1, 2] := by decide
  have f5 : zB.l.length ≤ 100 := by decide
  have f6 : ∀ p ∈ zB.l, p.needs.length ≤ 6 := by
    have : (zB.l.all fun p => decide (p.needs.length ≤ 6)) = true := by decide
    intro p hp
    simpa using List.all_eq_true.1 this p hp
  have wf4 : wfi 4 := wfi_of (by decide)
  have wf3 : wfi 3 := wfi_of (by decide)
  have wf2 : wfi 2 := wfi_of (by decide)
  have wf1 : wfi 1 := wfi_of (by decide)
  go_enter Try.func6, Try.ntmps6
  go_wp2_with (first
    | (go_at_call 20; refine (new_1 _).mono ?_; rintro e w1 ⟨g, rfl, G, b1⟩
       have bd1 := one_b w1 1 (by decide)
       have ba1 : Below w1.heap.size w1 (w1.alloc (.cells #[.int .u8 1] 5)) := (Below.refl _ w1).alloc (Nat.le_refl _) _)
    | (clear t1; refine at_bldPA (by rfl) _ _ (by rfl) ⟨some ⟨w1.heap.size, 0, none⟩, 1, 1⟩ (by rfl) (by rfl) ?_)
    | (go_at_call 21; clear t2; refine (add_1 G ba1 pA ⟨some ⟨w1.heap.size, 0, none⟩, 1, 1⟩ Sv.nil wfA ⟨bd1, InsS.nil _, inE_at (Nat.le_refl _), InE.nil _⟩ (by decide) (by decide) (by decide) (Nat.le_trans b1.size ba1.size)).mono ?_; rw [f1, f2]; rintro e w2 ⟨rfl, G2, b2⟩
       replace b2 : Below w.heap.size w w2 := (bnext b1 ba1 (Nat.le_refl _)).trans b2
       have G2' : G1 w.heap.size w2 g zA := G2
       have bd2 := one_b w2 1 (by decide)
       have bi2 := one_i (w2.alloc (.cells #[.int .u8 1] 5)) 1 wf1
       have ba2 : Below w2.heap.size w2 (w2.alloc (.cells #[.int .u8 1] 5)) := (Below.refl _ w2).alloc (Nat.le_refl _) _
       have bb2 : Below w2.heap.size w2 ((w2.alloc (.cells #[.int .u8 1] 5)).alloc (.cells #[.int .i64 1] 3)) := ba2.alloc ba2.size _
       have bc2 : Below (w2.alloc (.cells #[.int .u8 1] 5)).heap.size (w2.alloc (.cells #[.int .u8 1] 5)) ((w2.alloc (.cells #[.int .u8 1] 5)).alloc (.cells #[.int .i64 1] 3)) := (Below.refl _ _).alloc (Nat.le_refl _) _
       replace bd2 := bd2.later bc2
       have eh : (w2.alloc (.cells #[.int .u8 1] 5)).heap.size = w2.heap.size + 1 := by simp
       rw [eh] at bi2
       clear G2 G f1 f2 bd1 ba1 eh)
    | (clear t3; refine at_bldPB (by rfl) _ _ _ (by rfl) ⟨some ⟨w2.heap.size, 0, none⟩, 1, 1⟩ ⟨some ⟨w2.heap.size + 1, 0, none⟩, 1, 1⟩ (by rfl) (by rfl) (by rfl) ?_)
    | (go_at_call 21; clear t4; refine (add_1 G2' bb2 pB ⟨some ⟨w2.heap.size, 0, none⟩, 1, 1⟩ ⟨some ⟨w2.heap.size + 1, 0, none⟩, 1, 1⟩ wfB ⟨bd2, bi2, inE_at (Nat.le_refl _), inE_at (Nat.le_succ _)⟩ (by decide) (by decide) (by decide) (Nat.le_trans b2.size bb2.size)).mono ?_; rw [f3, f4]; rintro e w3 ⟨rfl, G3, b3⟩
       replace b3 : Below w.heap.size w w3 := (bnext b2 bb2 (Nat.le_refl _)).trans b3
       have G3' : G1 w.heap.size w3 g zB := G3
       have bi3 := one_i w3 2 wf2
       have ba3 : Below w3.heap.size w3 (w3.alloc (.cells #[.int .i64 2] 3)) := (Below.refl _ w3).alloc (Nat.le_refl _) _
       have G3'' := G3'.later ba3
       have hBa : Calls Try.prog 10 #[.pointer (some ⟨g, 0, none⟩), .slice (some ⟨w3.heap.size, 0, none⟩) 1 1] (w3.alloc (.cells #[.int .i64 2] 3)) fun e w' => ∃ v, e = .returned v ∧ BtS w' 36 (w3.alloc (.cells #[.int .i64 2] 3)).heap.size v (btL [2] zB 2) ∧ Below (w3.alloc (.cells #[.int .i64 2] 3)).heap.size (w3.alloc (.cells #[.int .i64 2] 3)) w' := by
         obtain ⟨⟨E, F, ⟨mp, mw, f, fw, H⟩, _, _⟩, _⟩ := G3''
         exact batches_any H bi3 (by decide) f5 f6 two_ends (by decide)
       rw [two_list] at hBa
       clear G3 G2' f3 f4 bd2 bi2 ba2 bb2 bc2 bi3 G3'')
    | (go_at_call 10; refine hBa.mono ?_; rintro e w5 ⟨v5, rfl, L5, b5⟩; clear hBa
       obtain ⟨b, c, s0, s1, rfl, c0, c1, c2, c3, i0, i1⟩ := bts_two L5
       have b35 := bnext ba3 b5 (Nat.le_refl _)
       have B5 := bnext b3 b35 (Nat.le_refl _)
       have G5 := G3'.later b35
       have bi5 := one_i w5 3 wf3
       have ba5 : Below w5.heap.size w5 (w5.alloc (.cells #[.int .i64 3] 3)) := (Below.refl _ w5).alloc (Nat.le_refl _) _
       clear L5 b5 G3' ba3 b35)
    | (go_at_call 18; clear t7; refine (same_any (a := s0) (b := ⟨some ⟨w5.heap.size, 0, none⟩, 1, 1⟩) (i0.later ba5) bi5 (by decide)).mono ?_; rintro e w6 ⟨rfl, b6⟩
       have b56 := bnext ba5 b6 (Nat.le_refl _)
       have S56 := Stp.of_below b56 (fun _ => False)
       have d1 := S56.cell c1 id
       have d2 := S56.cell c2 id
       have d3 := S56.cell c3 id
       have i1' := i1.later b56
       have G6 := G5.later b56
       have B6 := bnext B5 b56 (Nat.le_refl _)
       have bi6 := one_i w6 4 wf4
       have ba6 : Below w6.heap.size w6 (w6.alloc (.cells #[.int .i64 4] 3)) := (Below.refl _ w6).alloc (Nat.le_refl _) _
       clear G5 i0 bi5 ba5 b6 b56 S56)
    | (go_at_call 18; clear t6; refine (same_any (a := s1) (b := ⟨some ⟨w6.heap.size, 0, none⟩, 1, 1⟩) (i1'.later ba6) bi6 (by decide)).mono ?_; rintro e w7 ⟨rfl, b7⟩
       have b67 := bnext ba6 b7 (Nat.le_refl _)
       have S67 := Stp.of_below b67 (fun _ => False)
       have h3 := S67.cell d3 id
       have G7 := G6.later b67
       have B7 := bnext B6 b67 (Nat.le_refl _)
       clear G6 i1' bi6 ba6 b7 b67 S67)
    | (go_at_call 11; refine (all_1 G7).mono ?_; rw [f9]; rintro e w9 ⟨⟨va, vn, vc⟩, rfl, i9, _, b9⟩
       have hvn : vn = 2 := i9.i.len.symm
       subst hvn
       have B9 := bnext B7 b9 (Nat.le_refl _)
       clear f9 b9 i9))
  go_returns
  exact ⟨rfl, B9⟩
end Go.Proofs.Ytdfifneikmlmoaa

namespace Go.Proofs.Ytdfifneikmlmoaa
open Go.ChangeShapes Go.WideShapes Go.ChangeAt Go.RowKit
set_option linter.unusedVariables false
set_option linter.unusedSimpArgs false

theorem GZ.ok.bump {Z : GZ} (h : Z.ok 2000) (hlt : Z.last < 2000) : (⟨Z.last + 1, Z.l⟩ : GZ).ok 2000 :=
  ⟨h.srt, fun p hp => by have := h.rng p hp; exact ⟨this.1, by simp only; omega⟩, h.ft, h.nds, h.wf, by have := h.l0; simp only; omega, by simp only; omega⟩
theorem GZ.ok.snoc {Z : GZ} (h : Z.ok 2000) (hlt : Z.last < 2000) {p : Pt} (hf : fit p = true) (hg : givn Z.last p.needs = true) (hw : wfi p.own ∧ wfi p.child) : (⟨Z.last + 1, Z.l ++ [{ p with id := Z.last + 1, wr := false }]⟩ : GZ).ok 2000 := by
  have l0 := h.l0
  refine ⟨?_, fun q hq => ?_, fun q hq => ?_, fun q hq => ?_, fun q hq => ?_, by simp only; omega, by simp only; omega⟩
  · simp only
    rw [List.pairwise_append]
    refine ⟨h.srt, List.pairwise_singleton _ _, fun a ha b hb => ?_⟩
    rw [List.mem_singleton.1 hb]
    have := h.rng a ha
    simp only; omega
  · simp only at hq
    rcases List.mem_append.1 hq with hq | hq
    · have := h.rng q hq; simp only; omega
    · rw [List.mem_singleton.1 hq]; simp only; omega
  · simp only at hq
    rcases List.mem_append.1 hq with hq | hq
    · exact h.ft q hq
    · rw [List.mem_singleton.1 hq]; exact hf
  · simp only at hq
    rcases List.mem_append.1 hq with hq | hq
    · exact h.nds q hq
    · rw [List.mem_singleton.1 hq]
      intro x hx
      unfold givn at hg
      have := List.all_eq_true.1 hg x hx
      simp at this
      simp only; omega
  · simp only at hq
    rcases List.mem_append.1 hq with hq | hq
    · exact h.wf q hq
    · rw [List.mem_singleton.1 hq]; exact hw
theorem Rf.bump {w : World} {g : Nat} {Z : GZ} {a : Option Addr} {c : Nat} {L : List Pe} {R : Nat → Prop} (H : Rf w g Z a c L R) (hlt : Z.last < 2000) : Rf (w.setCell ⟨g, 0, none⟩ (.int .i64 (Z.last + 1))) g ⟨Z.last + 1, Z.l⟩ a c L R := by
  have s : Stp (fun x => x = g) w (w.setCell ⟨g, 0, none⟩ (.int .i64 (Z.last + 1))) := (Stp.refl (fun x => x = g) w).setCell (p := ⟨g, 0, none⟩) (.inl rfl) _
  have hR : ∀ x, R x → ¬ x = g := fun x hx e => H.rg (e ▸ hx)
  exact ⟨H.cc.set 0 (.int .i64 (Z.last + 1)) rfl, H.row.step s (fun r hr => hR r (H.rv r hr)), fun t ht => (H.ms t ht).step s hR, H.rv, H.rg, fun x hx => Nat.lt_of_lt_of_le (H.lt x hx) s.size, H.eq, H.ok.bump hlt, H.nl⟩
/-- The graph with one more. -/
theorem Rf.added {w W w' : World} {g : Nat} {Z : GZ} {a : Option Addr} {c : Nat} {L : List Pe} {R : Nat → Prop} (H : Rf W g ⟨Z.last + 1, Z.l⟩ a c L R) (hw : w.heap.size ≤ W.heap.size) (ok : Z.ok 2000) (hlt : Z.last < 2000) {p : Pt} {d n : Sv} {xa : Option Addr} {xn xc : Nat} (hf : fit p = true) (hg : givn Z.last p.needs = true) (hwf : p.wfp) (hn : p.needs.length ≤ 100000)
    (ho : OwP w' (.slice xa xn xc) (L ++ [⟨{ p with id := Z.last + 1, wr := false }, d, n⟩])) (hv : ∀ r, (Value.slice xa xn xc).ownBlock = some r → Made w w' r ∧ r ≠ g) (hc : Cs w' g [.int .i64 (Z.last + 1), .slice xa xn xc]) (hs : Stp (fun x => x = g ∨ W.heap.size ≤ x) W w') (m : PtM w' (fun x => Made w w' x ∧ x ≠ g) p d n) :
    Rh w' g ⟨Z.last + 1, Z.l ++ [{ p with id := Z.last + 1, wr := false }]⟩ (fun x => (R x ∨ Made w w' x) ∧ x ≠ g) := by
  obtain ⟨ya, yc, e, _⟩ := ho.shape
  injection e with e1 e2 e3
  subst e2
  have key : ∀ x, R x → ¬ (x = g ∨ W.heap.size ≤ x) := fun x hx e => by
    rcases e with e | e
    · exact H.rg (e ▸ hx)
    · have := H.lt x hx; omega
  refine ⟨xa, xc, _, hc, ho, fun u hu => ?_, fun r hr => ⟨.inr (hv r hr).1, (hv r hr).2⟩, fun e => e.2 rfl, fun x hx => ?_, ?_, ok.snoc hlt hf hg ⟨hwf.w, hwf.c⟩, fun q hq => ?_⟩
  · rcases List.mem_append.1 hu with hu | hu
    · exact ((H.ms u hu).step hs key).mono (fun x hx => ⟨.inl hx, fun e => H.rg (e ▸ hx)⟩)
    · rw [List.mem_singleton.1 hu]
      exact (PtM.mono m (fun x hx => ⟨.inr hx.1, hx.2⟩)).other rfl rfl
  · rcases hx.1 with e | e
    · have := H.lt x e; have := hs.size; omega
    · exact e.2
  · have := H.eq
    simp only at this
    rw [List.map_append, this]; rfl
  · simp only at hq
    rcases List.mem_append.1 hq with hq | hq
    · exact H.nl q hq
    · rw [List.mem_singleton.1 hq]; exact hn
theorem ob_eq {b n c r : Nat} (h : (Value.slice (some ⟨b, 0, none⟩) n c).ownBlock = some r) : b = r := by simpa [Value.ownBlock] using h
theorem ow_11 {w w' : World} {B : Nat} {v v' : Value} {L : List Pe} (hA : Apd w B 40 9 v ([] : List Pe).length L.length (fl [] ++ fl L) v' w') : OwP w' v' L := by
  have := hA.1
  rw [List.length_nil, Nat.zero_add, fl_nil, List.nil_append] at this
  exact this
theorem ow_12 {w w' : World} {B : Nat} {v v' : Value} {L : List Pe} {t : Pe} (hA : Apd w B 40 9 v L.length 1 (fl L ++ t.cs) v' w') : OwP w' v' (L ++ [t]) := by
  unfold OwP
  rw [fl_append, fl_cons, fl_nil, List.append_nil]
  simpa using hA.1
theorem step_bs0P {ops : Array Oper} {o : Oper} {a : Act} {w : World} {K : Act → World → Prop} {Q : Exit → Act → World → Prop} {R : Prop} (hgd : o.guard = none) (ho : o.op = .buildSlice 22 0 #[])
    (h : ∀ g w', w.heap.size ≤ g → OwP w' (.slice (some ⟨g, 0, none⟩) 0 0) [] → Below w.heap.size w w' → K (a.put o.dst (.slice (some ⟨g, 0, none⟩) 0 0)) w') : if Region.wanted o (yielded ops a.tmps) = true then Oper.wp Try.prog o a w K Q else R := by
  have hw : Region.wanted o (yielded ops a.tmps) = true := by simp [Region.wanted, hgd]
  rw [if_pos hw]
  have h0 : (Instr.buildSlice 22 0 #[]).run Try.prog w = .ok (.slice (some ⟨w.heap.size, 0, none⟩) 0 0) (w.alloc (.cells #[] 40)) := by kernel_rfl
  have hr : (execOp a.eval o).run Try.prog w = .ok (.value (.slice (some ⟨w.heap.size, 0, none⟩) 0 0)) (w.alloc (.cells #[] 40)) := by simp [execOp, ho, h0]
  unfold Oper.wp
  rw [hr]
  exact h w.heap.size _ (Nat.le_refl _) (World.ownsRow_made w #[] 0 (Nat.zero_le _) (Nat.zero_le _) rfl) ((Below.refl _ w).alloc (Nat.le_refl _) _)
theorem step_bs1P {ops : Array Oper} {o : Oper} {a : Act} {w : World} {K : Act → World → Prop} {Q : Exit → Act → World → Prop} {R : Prop} (hgd : o.guard = none) (x : Operand) (ho : o.op = .buildSlice 22 1 #[(0, x)]) (t : Pe) (hx : a.eval x = .agg t.cs.toArray)
    (h : ∀ g w', w.heap.size ≤ g → Cs w' g t.cs → Below w.heap.size w w' → K (a.put o.dst (.slice (some ⟨g, 0, none⟩) 1 1)) w') : if Region.wanted o (yielded ops a.tmps) = true then Oper.wp Try.prog o a w K Q else R := by
  have hw : Region.wanted o (yielded ops a.tmps) = true := by simp [Region.wanted, hgd]
  rw [if_pos hw]
  have hr : (execOp a.eval o).run Try.prog w = .ok (.value (.slice (some ⟨w.heap.size, 0, none⟩) 1 1)) (w.alloc (.cells t.cs.toArray 40)) := by simp [execOp, ho, hx, bslice_p]
  unfold Oper.wp
  rw [hr]
  exact h w.heap.size _ (Nat.le_refl _) (Cs.made w t.cs _ t.cs_one) ((Below.refl _ w).alloc (Nat.le_refl _) _)
set_option maxRecDepth 100000 in
set_option maxHeartbeats 4000000 in
theorem radd_any {w : World} {g : Nat} {Z : GZ} {a : Option Addr} {c : Nat} {L : List Pe} {R E : Nat → Prop} (H : Rf w g Z a c L R) (p : Pt) (d n : Sv) (hp : p.wfp) (hpm : PtM w E p d n) (hE : ∀ x, E x → x ≠ g) (hlt : Z.last < 2000) (hd : p.data.length ≤ 100000) (hn : p.needs.length ≤ 100000) :
    Calls Try.prog 25 #[.pointer (some ⟨g, 0, none⟩), .agg (p.cs d n).toArray] w fun e w' => e = .returned (.tuple #[.int .i64 (Z.addN p), .int .i64 (Z.addE p)]) ∧ Rh w' g (Z.add p) (fun x => (R x ∨ Made w w' x) ∧ x ≠ g) ∧ Stp (fun x => x = g) w w' := by
  have t1 : True := trivial
  have h1 := wfi_to hp.s
  have h2 := wfi_to hp.o
  have h3 := wfi_to hp.k
  have hdl := hpm.bs.len
  have hnl := hpm.is.i.len
  obtain ⟨da, dn, dc⟩ := d
  obtain ⟨na, nn, nc⟩ := n
  simp only at hdl hnl
  subst hdl
  subst hnl
  have hdm : p.data.length ≤ maxLen := Nat.le_trans hpm.bs.le hpm.bs.cap
  have hnm : p.needs.length ≤ maxLen := Nat.le_trans hpm.is.i.le hpm.is.i.cap
  have hl2 : (p.data.length : Int) ≤ 100000 := by omega
  have hl1 : (0 : Int) ≤ (p.data.length : Int) := by omega
  obtain ⟨most, hmost⟩ : ∃ m : Int, Hid (m = if p.kind = 0 then 64 else 54) := ⟨_, rfl⟩
  have hm1 : most = 64 ∨ most = 54 := by rw [hmost.out]; split; exact .inl rfl; exact .inr rfl
  have hFit : Hid ((!fit p) = (decide (p.at' < 0) || decide (2047 < p.at') || decide (p.kind < 0) || decide (6 < p.kind) || decide ((p.data.length : Int) = 0) || decide (most < (p.data.length : Int)) || decide (p.off < 0) || decide (most - (p.data.length : Int) < p.off))) := by
    show _ = _
    unfold fit
    rw [← hmost.out, Bool.eq_iff_iff]
    simp only [Bool.not_eq_true', Bool.and_eq_false_iff, Bool.or_eq_true, decide_eq_true_eq, decide_eq_false_iff_not]
    omega
  go_enter Try.func25, Try.ntmps25
  go_upto_if 11 with (first
    | (clear t1; refine at_boxP (by rfl) _ (by rfl) p ⟨da, p.data.length, dc⟩ ⟨na, p.needs.length, nc⟩ (by rfl) ?_; intro g1 w1 a1 a2 r1 b1; obtain ⟨c0, c1, c2, c3, c4, c5, c6, c7, c8⟩ := Pt.cells r1))
  generalize (p.cs ⟨da, p.data.length, dc⟩ ⟨na, p.needs.length, nc⟩).toArray = AV
  go_cut [6] (fun u wx => u = .int .i64 most ∧ wx = w1)
  case first =>
    by_cases hk : p.kind = 0
    · have e : most = 64 := by rw [hmost.out, if_pos hk]
      go_wp2_with fail
      go_meet
      exact ⟨by rw [e], rfl⟩
    · have e : most = 54 := by rw [hmost.out, if_neg hk]
      go_wp2_with fail
      go_meet
      exact ⟨by rw [e], rfl⟩
  case rest =>
    obtain ⟨rfl, e0⟩ := hcut
    subst wc
    go_upto_region 4 with fail
    go_cut [57] (fun u wx => u = .bool (!fit p) ∧ wx = w1)
    case first =>
      go_wp2_with fail
      all_goals
        go_meet
        refine ⟨?_, rfl⟩
        rw [hFit.out]
        first
          | rfl
          | (refine congrArg Value.bool (Eq.symm ?_); simp only [Bool.or_eq_true, decide_eq_true_eq]; omega)
          | (refine congrArg Value.bool (Eq.symm ?_); simp only [Bool.or_eq_true, decide_eq_true_eq]; have h0 : p.data.length = 0 := by (rename_i h0; rw [h0]; rfl)
             omega)
    case rest =>
      obtain ⟨rfl, e0⟩ := hcut
      subst wc
      have z0' := H.cells.1
      have bad : ∀ {w'}, Below w.heap.size w w' → Z.addOk p = false → Hid (Z.addN p = 0) ∧ Hid (Z.addE p = 2) ∧ Rh w' g (Z.add p) (fun x => (R x ∨ Made w w' x) ∧ x ≠ g) ∧ Stp (fun x => x = g) w w' := fun {w'} hb hk => by
        have e : Z.add p = Z := by unfold GZ.add; rw [hk]; rfl
        refine ⟨?_, ?_, ?_, Stp.of_below hb _⟩
        · show _ = _; unfold GZ.addN; rw [hk]; rfl
        · show _ = _; unfold GZ.addE; rw [hk]; rfl
        · rw [e]
          exact ⟨a, c, L, (H.later hb).mono (fun x hx => ⟨.inl hx, fun e => H.rg (e ▸ hx)⟩) (fun e => e.2 rfl) (fun x hx => hx.1.elim ((H.later hb).lt x) (fun e => e.2))⟩
      clear hFit hmost
      obtain ⟨ft, hft⟩ : ∃ f, Hid (fit p = f) := ⟨_, rfl⟩
      rw [hft.out]
      cases ft with
      | false =>
        have hbd : Hid (Z.addOk p = false) := (by unfold GZ.addOk; rw [hft.out]; rfl : Z.addOk p = false)
        go_wp2_with fail
        go_returns
        have hb2 := bad b1 hbd.out
        exact ⟨by rw [hb2.1.out, hb2.2.1.out]; rfl, hb2.2.2⟩
      | true =>
        go_wp2_with fail
        go_loopw [7] (fun v wr => ∃ i : Nat, i ≤ p.needs.length ∧ v = .int .i64 (i : Int) ∧ givn Z.last (p.needs.take i) = true ∧ Below w1.heap.size w1 wr) (fun v _ => p.needs.length - (intOf v).toNat)
        case atStart => exact ⟨0, Nat.zero_le _, rfl, rfl, Below.refl _ _⟩
        case round =>
          clear c0 c1 c2 c3 c4 c5 c6 c7 c8
          obtain ⟨i, hi, rfl, hgv, B⟩ := hrel
          have rB := r1.later B
          have k5 := (Pt.cells rB).2.2.2.2.2.1
          have HB := H.later (bnext b1 B (Nat.le_refl _))
          obtain ⟨z0, z1⟩ := HB.cells
          have a8 : (0 : Int) ≤ (i : Int) := by omega
          by_cases hil : i < p.needs.length
          · have a9 : (i : Int) < (p.needs.length : Int) := by omega
            have mB := hpm.later (bnext b1 B (Nat.le_refl _))
            obtain ⟨nb, no, en, hnc⟩ := mB.is.i.cell (by show 0 < p.needs.length; omega)
            simp only at en
            subst en
            have cn := hnc i hil
            have hst := givn_take Z.last p.needs i hil hgv
            have hno := fun h => givn_no Z.last p.needs (i + 1) h
            generalize p.needs.getD i 0 = x at *
            clear hnc
            go_wp2_with fail
            refine wp_region_held_drew (S := fun u => Below wr.heap.size wr u) (by kernel_rfl) (Below.refl _ _).drew (fun hHeld => ?_)
            by_cases hx1 : x < 1
            · have hbd : Hid (Z.addOk p = false) := (by unfold GZ.addOk; rw [hno (by rw [hst]; simp; omega)]; simp : Z.addOk p = false)
              refine wpAnyH_take (i := 0) (oi := { dst := some 65, op := Op.fieldAddr 40 (Operand.tmp 3) 5, type := 0, pos := _, after := #[], guard := none }) (v := .pointer (some ⟨g1, 5, none⟩)) rfl (by kernel_rfl) (by kernel_rfl) (by kernel_rfl) (fun _ _ _ h => h) (Or.inl ⟨by rfl, ?_⟩) hHeld ?_
              · intro u hu
                go_simp
              try simp only [Act.put, List.setIfInBounds_toArray, List.set_cons_zero, List.set_cons_succ]
              refine wpAnyH_take (i := 1) (oi := { dst := some 66, op := Op.load 23 (Operand.tmp 65), type := 23, pos := _, after := #[{ on := 0, ground := Ground.data }], guard := none }) (v := .slice (some ⟨nb, no, none⟩) p.needs.length nc) rfl (by kernel_rfl) (by kernel_rfl) (by kernel_rfl) (fun _ _ _ h => h) (Or.inl ⟨by rfl, ?_⟩) hHeld ?_
              · intro u hu
                have x1 := (Stp.of_below hu (fun _ => False)).cell k5 id; go_simp
              try simp only [Act.put, List.setIfInBounds_toArray, List.set_cons_zero, List.set_cons_succ]
              refine wpAnyH_take (i := 2) (oi := { dst := some 67, op := Op.move (Operand.tmp 7), type := 3, pos := _, after := #[], guard := none }) (v := .int .i64 (i : Int)) rfl (by kernel_rfl) (by kernel_rfl) (by kernel_rfl) (fun _ _ _ h => h) (Or.inl ⟨by rfl, ?_⟩) hHeld ?_
              · intro u hu
                go_simp
              try simp only [Act.put, List.setIfInBounds_toArray, List.set_cons_zero, List.set_cons_succ]
              refine wpAnyH_take (i := 3) (oi := { dst := some 68, op := Op.indexAddr 23 (Operand.tmp 66) (Operand.tmp 67), type := 0, pos := _, after := #[{ on := 1, ground := Ground.data }, { on := 2, ground := Ground.data }], guard := none }) (v := .pointer (some ⟨nb, no + i, none⟩)) rfl (by kernel_rfl) (by kernel_rfl) (by kernel_rfl) (fun _ _ _ h => h) (Or.inl ⟨by rfl, ?_⟩) hHeld ?_
              · intro u hu
                go_simp
              try simp only [Act.put, List.setIfInBounds_toArray, List.set_cons_zero, List.set_cons_succ]
              refine wpAnyH_take (i := 4) (oi := { dst := some 69, op := Op.load 3 (Operand.tmp 68), type := 3, pos := _, after := #[{ on := 3, ground := Ground.data }], guard := none }) (v := .int .i64 x) rfl (by kernel_rfl) (by kernel_rfl) (by kernel_rfl) (fun _ _ _ h => h) (Or.inl ⟨by rfl, ?_⟩) hHeld ?_
              · intro u hu
                have x1 := (Stp.of_below hu (fun _ => False)).cell cn id; go_simp
              try simp only [Act.put, List.setIfInBounds_toArray, List.set_cons_zero, List.set_cons_succ]
              refine wpAnyH_take (i := 5) (oi := { dst := some 70, op := Op.binOp BinOp.lss 3 (Operand.tmp 69) (Operand.const (Value.int IntKind.i64 1)) 3, type := 4, pos := _, after := #[{ on := 4, ground := Ground.data }], guard := none }) (v := .bool true) rfl (by kernel_rfl) (by kernel_rfl) (by kernel_rfl) (fun _ _ _ h => h) (Or.inl ⟨by rfl, ?_⟩) hHeld ?_
              · intro u hu
                go_simp
              try simp only [Act.put, List.setIfInBounds_toArray, List.set_cons_zero, List.set_cons_succ]
              refine wpAnyH_take (i := 6) (oi := { dst := some 71, op := Op.move (Operand.tmp 70), type := 4, pos := _, after := #[{ on := 5, ground := Ground.data }], guard := none }) (v := .bool true) rfl (by kernel_rfl) (by kernel_rfl) (by kernel_rfl) (fun _ _ _ h => h) (Or.inl ⟨by rfl, ?_⟩) hHeld ?_
              · intro u hu
                go_simp
              try simp only [Act.put, List.setIfInBounds_toArray, List.set_cons_zero, List.set_cons_succ]
              refine wpAnyH_take (i := 7) (oi := { dst := some 72, op := Op.fieldAddr 40 (Operand.tmp 3) 5, type := 0, pos := _, after := #[{ on := 6, ground := Ground.guard }], guard := some (6, false) }) (v := undef) rfl (by kernel_rfl) (by kernel_rfl) (by kernel_rfl) (fun _ _ _ h => h)
                (Or.inr ⟨by rfl, rfl⟩) hHeld ?_
              try simp only [Act.put, List.setIfInBounds_toArray, List.set_cons_zero, List.set_cons_succ]
              refine wpAnyH_take (i := 8) (oi := { dst := some 73, op := Op.load 23 (Operand.tmp 72), type := 23, pos := _, after := #[{ on := 7, ground := Ground.data }, { on := 6, ground := Ground.guard }], guard := some (6, false) }) (v := undef) rfl (by kernel_rfl) (by kernel_rfl) (by kernel_rfl) (fun _ _ _ h => h)
                (Or.inr ⟨by rfl, rfl⟩) hHeld ?_
              try simp only [Act.put, List.setIfInBounds_toArray, List.set_cons_zero, List.set_cons_succ]
              refine wpAnyH_take (i := 9) (oi := { dst := some 74, op := Op.move (Operand.tmp 7), type := 3, pos := _, after := #[{ on := 6, ground := Ground.guard }], guard := some (6, false) }) (v := undef) rfl (by kernel_rfl) (by kernel_rfl) (by kernel_rfl) (fun _ _ _ h => h)
                (Or.inr ⟨by rfl, rfl⟩) hHeld ?_
              try simp only [Act.put, List.setIfInBounds_toArray, List.set_cons_zero, List.set_cons_succ]
              refine wpAnyH_take (i := 10) (oi := { dst := some 75, op := Op.indexAddr 23 (Operand.tmp 73) (Operand.tmp 74), type := 0, pos := _, after := #[{ on := 8, ground := Ground.data }, { on := 9, ground := Ground.data }, { on := 6, ground := Ground.guard }], guard := some (6, false) }) (v := undef) rfl (by kernel_rfl) (by kernel_rfl) (by kernel_rfl) (fun _ _ _ h => h)
                (Or.inr ⟨by rfl, rfl⟩) hHeld ?_
              try simp only [Act.put, List.setIfInBounds_toArray, List.set_cons_zero, List.set_cons_succ]
              refine wpAnyH_take (i := 11) (oi := { dst := some 76, op := Op.load 3 (Operand.tmp 75), type := 3, pos := _, after := #[{ on := 10, ground := Ground.data }, { on := 6, ground := Ground.guard }], guard := some (6, false) }) (v := undef) rfl (by kernel_rfl) (by kernel_rfl) (by kernel_rfl) (fun _ _ _ h => h)
                (Or.inr ⟨by rfl, rfl⟩) hHeld ?_
              try simp only [Act.put, List.setIfInBounds_toArray, List.set_cons_zero, List.set_cons_succ]
              refine wpAnyH_take (i := 12) (oi := { dst := some 77, op := Op.move (Operand.tmp 0), type := 26, pos := _, after := #[{ on := 6, ground := Ground.guard }], guard := some (6, false) }) (v := undef) rfl (by kernel_rfl) (by kernel_rfl) (by kernel_rfl) (fun _ _ _ h => h)
                (Or.inr ⟨by rfl, rfl⟩) hHeld ?_
              try simp only [Act.put, List.setIfInBounds_toArray, List.set_cons_zero, List.set_cons_succ]
              refine wpAnyH_take (i := 13) (oi := { dst := some 78, op := Op.nilCheck (Operand.tmp 77), type := 0, pos := _, after := #[{ on := 12, ground := Ground.data }, { on := 6, ground := Ground.guard }], guard := some (6, false) }) (v := undef) rfl (by kernel_rfl) (by kernel_rfl) (by kernel_rfl) (fun _ _ _ h => h)
                (Or.inr ⟨by rfl, rfl⟩) hHeld ?_
              try simp only [Act.put, List.setIfInBounds_toArray, List.set_cons_zero, List.set_cons_succ]
              refine wpAnyH_take (i := 14) (oi := { dst := some 79, op := Op.fieldAddr 61 (Operand.tmp 78) 0, type := 0, pos := _, after := #[{ on := 13, ground := Ground.data }, { on := 6, ground := Ground.guard }], guard := some (6, false) }) (v := undef) rfl (by kernel_rfl) (by kernel_rfl) (by kernel_rfl) (fun _ _ _ h => h)
                (Or.inr ⟨by rfl, rfl⟩) hHeld ?_
              try simp only [Act.put, List.setIfInBounds_toArray, List.set_cons_zero, List.set_cons_succ]
              refine wpAnyH_take (i := 15) (oi := { dst := some 80, op := Op.load 3 (Operand.tmp 79), type := 3, pos := _, after := #[{ on := 14, ground := Ground.data }, { on := 6, ground := Ground.guard }], guard := some (6, false) }) (v := undef) rfl (by kernel_rfl) (by kernel_rfl) (by kernel_rfl) (fun _ _ _ h => h)
                (Or.inr ⟨by rfl, rfl⟩) hHeld ?_
              try simp only [Act.put, List.setIfInBounds_toArray, List.set_cons_zero, List.set_cons_succ]
              refine wpAnyH_take (i := 16) (oi := { dst := some 81, op := Op.binOp BinOp.gtr 3 (Operand.tmp 76) (Operand.tmp 80) 3, type := 4, pos := _, after := #[{ on := 11, ground := Ground.data }, { on := 15, ground := Ground.data }, { on := 6, ground := Ground.guard }], guard := some (6, false) }) (v := undef) rfl (by kernel_rfl) (by kernel_rfl) (by kernel_rfl) (fun _ _ _ h => h)
                (Or.inr ⟨by rfl, rfl⟩) hHeld ?_
              try simp only [Act.put, List.setIfInBounds_toArray, List.set_cons_zero, List.set_cons_succ]
              refine wpAnyH_take (i := 17) (oi := { dst := some 82, op := Op.pick (Operand.tmp 71) (Operand.const (Value.bool true)) (Operand.tmp 81), type := 4, pos := _, after := #[{ on := 6, ground := Ground.data }, { on := 16, ground := Ground.data }], guard := none }) (v := .bool true) rfl (by kernel_rfl) (by kernel_rfl) (by kernel_rfl) (fun _ _ _ h => h) (Or.inl ⟨by rfl, ?_⟩) hHeld ?_
              · intro u hu
                go_simp
              try simp only [Act.put, List.setIfInBounds_toArray, List.set_cons_zero, List.set_cons_succ]
              refine wpAnyH_done (by kernel_rfl) ?_ _
              have B9 := bnext (bnext b1 B (Nat.le_refl _)) hHeld (Nat.le_refl _)
              go_wp2_with fail
              go_returns
              have hb2 := bad B9 hbd.out
              exact ⟨by rw [hb2.1.out, hb2.2.1.out]; rfl, hb2.2.2⟩
            · by_cases hx2 : Z.last < x
              · have hbd : Hid (Z.addOk p = false) := (by unfold GZ.addOk; rw [hno (by rw [hst]; simp; omega)]; simp : Z.addOk p = false)
                refine wpAnyH_take (i := 0) (oi := { dst := some 65, op := Op.fieldAddr 40 (Operand.tmp 3) 5, type := 0, pos := _, after := #[], guard := none }) (v := .pointer (some ⟨g1, 5, none⟩)) rfl (by kernel_rfl) (by kernel_rfl) (by kernel_rfl) (fun _ _ _ h => h) (Or.inl ⟨by rfl, ?_⟩) hHeld ?_
                · intro u hu
                  go_simp
                try simp only [Act.put, List.setIfInBounds_toArray, List.set_cons_zero, List.set_cons_succ]
                refine wpAnyH_take (i := 1) (oi := { dst := some 66, op := Op.load 23 (Operand.tmp 65), type := 23, pos := _, after := #[{ on := 0, ground := Ground.data }], guard := none }) (v := .slice (some ⟨nb, no, none⟩) p.needs.length nc) rfl (by kernel_rfl) (by kernel_rfl) (by kernel_rfl) (fun _ _ _ h => h) (Or.inl ⟨by rfl, ?_⟩) hHeld ?_
                · intro u hu
                  have x1 := (Stp.of_below hu (fun _ => False)).cell k5 id; go_simp
                try simp only [Act.put, List.setIfInBounds_toArray, List.set_cons_zero, List.set_cons_succ]
                refine wpAnyH_take (i := 2) (oi := { dst := some 67, op := Op.move (Operand.tmp 7), type := 3, pos := _, after := #[], guard := none }) (v := .int .i64 (i : Int)) rfl (by kernel_rfl) (by kernel_rfl) (by kernel_rfl) (fun _ _ _ h => h) (Or.inl ⟨by rfl, ?_⟩) hHeld ?_
                · intro u hu
                  go_simp
                try simp only [Act.put, List.setIfInBounds_toArray, List.set_cons_zero, List.set_cons_succ]
                refine wpAnyH_take (i := 3) (oi := { dst := some 68, op := Op.indexAddr 23 (Operand.tmp 66) (Operand.tmp 67), type := 0, pos := _, after := #[{ on := 1, ground := Ground.data }, { on := 2, ground := Ground.data }], guard := none }) (v := .pointer (some ⟨nb, no + i, none⟩)) rfl (by kernel_rfl) (by kernel_rfl) (by kernel_rfl) (fun _ _ _ h => h) (Or.inl ⟨by rfl, ?_⟩) hHeld ?_
                · intro u hu
                  go_simp
                try simp only [Act.put, List.setIfInBounds_toArray, List.set_cons_zero, List.set_cons_succ]
                refine wpAnyH_take (i := 4) (oi := { dst := some 69, op := Op.load 3 (Operand.tmp 68), type := 3, pos := _, after := #[{ on := 3, ground := Ground.data }], guard := none }) (v := .int .i64 x) rfl (by kernel_rfl) (by kernel_rfl) (by kernel_rfl) (fun _ _ _ h => h) (Or.inl ⟨by rfl, ?_⟩) hHeld ?_
                · intro u hu
                  have x1 := (Stp.of_below hu (fun _ => False)).cell cn id; go_simp
                try simp only [Act.put, List.setIfInBounds_toArray, List.set_cons_zero, List.set_cons_succ]
                refine wpAnyH_take (i := 5) (oi := { dst := some 70, op := Op.binOp BinOp.lss 3 (Operand.tmp 69) (Operand.const (Value.int IntKind.i64 1)) 3, type := 4, pos := _, after := #[{ on := 4, ground := Ground.data }], guard := none }) (v := .bool false) rfl (by kernel_rfl) (by kernel_rfl) (by kernel_rfl) (fun _ _ _ h => h) (Or.inl ⟨by rfl, ?_⟩) hHeld ?_
                · intro u hu
                  go_simp
                try simp only [Act.put, List.setIfInBounds_toArray, List.set_cons_zero, List.set_cons_succ]
                refine wpAnyH_take (i := 6) (oi := { dst := some 71, op := Op.move (Operand.tmp 70), type := 4, pos := _, after := #[{ on := 5, ground := Ground.data }], guard := none }) (v := .bool false) rfl (by kernel_rfl) (by kernel_rfl) (by kernel_rfl) (fun _ _ _ h => h) (Or.inl ⟨by rfl, ?_⟩) hHeld ?_
                · intro u hu
                  go_simp
                try simp only [Act.put, List.setIfInBounds_toArray, List.set_cons_zero, List.set_cons_succ]
                refine wpAnyH_take (i := 7) (oi := { dst := some 72, op := Op.fieldAddr 40 (Operand.tmp 3) 5, type := 0, pos := _, after := #[{ on := 6, ground := Ground.guard }], guard := some (6, false) }) (v := .pointer (some ⟨g1, 5, none⟩)) rfl (by kernel_rfl) (by kernel_rfl) (by kernel_rfl) (fun _ _ _ h => h) (Or.inl ⟨by rfl, ?_⟩) hHeld ?_
                · intro u hu
                  go_simp
                try simp only [Act.put, List.setIfInBounds_toArray, List.set_cons_zero, List.set_cons_succ]
                refine wpAnyH_take (i := 8) (oi := { dst := some 73, op := Op.load 23 (Operand.tmp 72), type := 23, pos := _, after := #[{ on := 7, ground := Ground.data }, { on := 6, ground := Ground.guard }], guard := some (6, false) }) (v := .slice (some ⟨nb, no, none⟩) p.needs.length nc) rfl (by kernel_rfl) (by kernel_rfl) (by kernel_rfl) (fun _ _ _ h => h) (Or.inl ⟨by rfl, ?_⟩) hHeld ?_
                · intro u hu
                  have x1 := (Stp.of_below hu (fun _ => False)).cell k5 id; go_simp
                try simp only [Act.put, List.setIfInBounds_toArray, List.set_cons_zero, List.set_cons_succ]
                refine wpAnyH_take (i := 9) (oi := { dst := some 74, op := Op.move (Operand.tmp 7), type := 3, pos := _, after := #[{ on := 6, ground := Ground.guard }], guard := some (6, false) }) (v := .int .i64 (i : Int)) rfl (by kernel_rfl) (by kernel_rfl) (by kernel_rfl) (fun _ _ _ h => h) (Or.inl ⟨by rfl, ?_⟩) hHeld ?_
                · intro u hu
                  go_simp
                try simp only [Act.put, List.setIfInBounds_toArray, List.set_cons_zero, List.set_cons_succ]
                refine wpAnyH_take (i := 10) (oi := { dst := some 75, op := Op.indexAddr 23 (Operand.tmp 73) (Operand.tmp 74), type := 0, pos := _, after := #[{ on := 8, ground := Ground.data }, { on := 9, ground := Ground.data }, { on := 6, ground := Ground.guard }], guard := some (6, false) }) (v := .pointer (some ⟨nb, no + i, none⟩)) rfl (by kernel_rfl) (by kernel_rfl) (by kernel_rfl) (fun _ _ _ h => h) (Or.inl ⟨by rfl, ?_⟩) hHeld ?_
                · intro u hu
                  go_simp
                try simp only [Act.put, List.setIfInBounds_toArray, List.set_cons_zero, List.set_cons_succ]
                refine wpAnyH_take (i := 11) (oi := { dst := some 76, op := Op.load 3 (Operand.tmp 75), type := 3, pos := _, after := #[{ on := 10, ground := Ground.data }, { on := 6, ground := Ground.guard }], guard := some (6, false) }) (v := .int .i64 x) rfl (by kernel_rfl) (by kernel_rfl) (by kernel_rfl) (fun _ _ _ h => h) (Or.inl ⟨by rfl, ?_⟩) hHeld ?_
                · intro u hu
                  have x1 := (Stp.of_below hu (fun _ => False)).cell cn id; go_simp
                try simp only [Act.put, List.setIfInBounds_toArray, List.set_cons_zero, List.set_cons_succ]
                refine wpAnyH_take (i := 12) (oi := { dst := some 77, op := Op.move (Operand.tmp 0), type := 26, pos := _, after := #[{ on := 6, ground := Ground.guard }], guard := some (6, false) }) (v := .pointer (some ⟨g, 0, none⟩)) rfl (by kernel_rfl) (by kernel_rfl) (by kernel_rfl) (fun _ _ _ h => h) (Or.inl ⟨by rfl, ?_⟩) hHeld ?_
                · intro u hu
                  go_simp
                try simp only [Act.put, List.setIfInBounds_toArray, List.set_cons_zero, List.set_cons_succ]
                refine wpAnyH_take (i := 13) (oi := { dst := some 78, op := Op.nilCheck (Operand.tmp 77), type := 0, pos := _, after := #[{ on := 12, ground := Ground.data }, { on := 6, ground := Ground.guard }], guard := some (6, false) }) (v := .pointer (some ⟨g, 0, none⟩)) rfl (by kernel_rfl) (by kernel_rfl) (by kernel_rfl) (fun _ _ _ h => h) (Or.inl ⟨by rfl, ?_⟩) hHeld ?_
                · intro u hu
                  go_simp
                try simp only [Act.put, List.setIfInBounds_toArray, List.set_cons_zero, List.set_cons_succ]
                refine wpAnyH_take (i := 14) (oi := { dst := some 79, op := Op.fieldAddr 61 (Operand.tmp 78) 0, type := 0, pos := _, after := #[{ on := 13, ground := Ground.data }, { on := 6, ground := Ground.guard }], guard := some (6, false) }) (v := .pointer (some ⟨g, 0, none⟩)) rfl (by kernel_rfl) (by kernel_rfl) (by kernel_rfl) (fun _ _ _ h => h) (Or.inl ⟨by rfl, ?_⟩) hHeld ?_
                · intro u hu
                  go_simp
                try simp only [Act.put, List.setIfInBounds_toArray, List.set_cons_zero, List.set_cons_succ]
                refine wpAnyH_take (i := 15) (oi := { dst := some 80, op := Op.load 3 (Operand.tmp 79), type := 3, pos := _, after := #[{ on := 14, ground := Ground.data }, { on := 6, ground := Ground.guard }], guard := some (6, false) }) (v := .int .i64 Z.last) rfl (by kernel_rfl) (by kernel_rfl) (by kernel_rfl) (fun _ _ _ h => h) (Or.inl ⟨by rfl, ?_⟩) hHeld ?_
                · intro u hu
                  have x1 := (Stp.of_below hu (fun _ => False)).cell z0 id; go_simp
                try simp only [Act.put, List.setIfInBounds_toArray, List.set_cons_zero, List.set_cons_succ]
                refine wpAnyH_take (i := 16) (oi := { dst := some 81, op := Op.binOp BinOp.gtr 3 (Operand.tmp 76) (Operand.tmp 80) 3, type := 4, pos := _, after := #[{ on := 11, ground := Ground.data }, { on := 15, ground := Ground.data }, { on := 6, ground := Ground.guard }], guard := some (6, false) }) (v := .bool true) rfl (by kernel_rfl) (by kernel_rfl) (by kernel_rfl) (fun _ _ _ h => h) (Or.inl ⟨by rfl, ?_⟩) hHeld ?_
                · intro u hu
                  go_simp
                try simp only [Act.put, List.setIfInBounds_toArray, List.set_cons_zero, List.set_cons_succ]
                refine wpAnyH_take (i := 17) (oi := { dst := some 82, op := Op.pick (Operand.tmp 71) (Operand.const (Value.bool true)) (Operand.tmp 81), type := 4, pos := _, after := #[{ on := 6, ground := Ground.data }, { on := 16, ground := Ground.data }], guard := none }) (v := .bool true) rfl (by kernel_rfl) (by kernel_rfl) (by kernel_rfl) (fun _ _ _ h => h) (Or.inl ⟨by rfl, ?_⟩) hHeld ?_
                · intro u hu
                  go_simp
                try simp only [Act.put, List.setIfInBounds_toArray, List.set_cons_zero, List.set_cons_succ]
                refine wpAnyH_done (by kernel_rfl) ?_ _
                have B9 := bnext (bnext b1 B (Nat.le_refl _)) hHeld (Nat.le_refl _)
                go_wp2_with fail
                go_returns
                have hb2 := bad B9 hbd.out
                exact ⟨by rw [hb2.1.out, hb2.2.1.out]; rfl, hb2.2.2⟩
              · have hst2 : givn Z.last (p.needs.take (i + 1)) = true := by rw [hst]; simp; omega
                refine wpAnyH_take (i := 0) (oi := { dst := some 65, op := Op.fieldAddr 40 (Operand.tmp 3) 5, type := 0, pos := _, after := #[], guard := none }) (v := .pointer (some ⟨g1, 5, none⟩)) rfl (by kernel_rfl) (by kernel_rfl) (by kernel_rfl) (fun _ _ _ h => h) (Or.inl ⟨by rfl, ?_⟩) hHeld ?_
                · intro u hu
                  go_simp
                try simp only [Act.put, List.setIfInBounds_toArray, List.set_cons_zero, List.set_cons_succ]
                refine wpAnyH_take (i := 1) (oi := { dst := some 66, op := Op.load 23 (Operand.tmp 65), type := 23, pos := _, after := #[{ on := 0, ground := Ground.data }], guard := none }) (v := .slice (some ⟨nb, no, none⟩) p.needs.length nc) rfl (by kernel_rfl) (by kernel_rfl) (by kernel_rfl) (fun _ _ _ h => h) (Or.inl ⟨by rfl, ?_⟩) hHeld ?_
                · intro u hu
                  have x1 := (Stp.of_below hu (fun _ => False)).cell k5 id; go_simp
                try simp only [Act.put, List.setIfInBounds_toArray, List.set_cons_zero, List.set_cons_succ]
                refine wpAnyH_take (i := 2) (oi := { dst := some 67, op := Op.move (Operand.tmp 7), type := 3, pos := _, after := #[], guard := none }) (v := .int .i64 (i : Int)) rfl (by kernel_rfl) (by kernel_rfl) (by kernel_rfl) (fun _ _ _ h => h) (Or.inl ⟨by rfl, ?_⟩) hHeld ?_
                · intro u hu
                  go_simp
                try simp only [Act.put, List.setIfInBounds_toArray, List.set_cons_zero, List.set_cons_succ]
                refine wpAnyH_take (i := 3) (oi := { dst := some 68, op := Op.indexAddr 23 (Operand.tmp 66) (Operand.tmp 67), type := 0, pos := _, after := #[{ on := 1, ground := Ground.data }, { on := 2, ground := Ground.data }], guard := none }) (v := .pointer (some ⟨nb, no + i, none⟩)) rfl (by kernel_rfl) (by kernel_rfl) (by kernel_rfl) (fun _ _ _ h => h) (Or.inl ⟨by rfl, ?_⟩) hHeld ?_
                · intro u hu
                  go_simp
                try simp only [Act.put, List.setIfInBounds_toArray, List.set_cons_zero, List.set_cons_succ]
                refine wpAnyH_take (i := 4) (oi := { dst := some 69, op := Op.load 3 (Operand.tmp 68), type := 3, pos := _, after := #[{ on := 3, ground := Ground.data }], guard := none }) (v := .int .i64 x) rfl (by kernel_rfl) (by kernel_rfl) (by kernel_rfl) (fun _ _ _ h => h) (Or.inl ⟨by rfl, ?_⟩) hHeld ?_
                · intro u hu
                  have x1 := (Stp.of_below hu (fun _ => False)).cell cn id; go_simp
                try simp only [Act.put, List.setIfInBounds_toArray, List.set_cons_zero, List.set_cons_succ]
                refine wpAnyH_take (i := 5) (oi := { dst := some 70, op := Op.binOp BinOp.lss 3 (Operand.tmp 69) (Operand.const (Value.int IntKind.i64 1)) 3, type := 4, pos := _, after := #[{ on := 4, ground := Ground.data }], guard := none }) (v := .bool false) rfl (by kernel_rfl) (by kernel_rfl) (by kernel_rfl) (fun _ _ _ h => h) (Or.inl ⟨by rfl, ?_⟩) hHeld ?_
                · intro u hu
                  go_simp
                try simp only [Act.put, List.setIfInBounds_toArray, List.set_cons_zero, List.set_cons_succ]
                refine wpAnyH_take (i := 6) (oi := { dst := some 71, op := Op.move (Operand.tmp 70), type := 4, pos := _, after := #[{ on := 5, ground := Ground.data }], guard := none }) (v := .bool false) rfl (by kernel_rfl) (by kernel_rfl) (by kernel_rfl) (fun _ _ _ h => h) (Or.inl ⟨by rfl, ?_⟩) hHeld ?_
                · intro u hu
                  go_simp
                try simp only [Act.put, List.setIfInBounds_toArray, List.set_cons_zero, List.set_cons_succ]
                refine wpAnyH_take (i := 7) (oi := { dst := some 72, op := Op.fieldAddr 40 (Operand.tmp 3) 5, type := 0, pos := _, after := #[{ on := 6, ground := Ground.guard }], guard := some (6, false) }) (v := .pointer (some ⟨g1, 5, none⟩)) rfl (by kernel_rfl) (by kernel_rfl) (by kernel_rfl) (fun _ _ _ h => h) (Or.inl ⟨by rfl, ?_⟩) hHeld ?_
                · intro u hu
                  go_simp
                try simp only [Act.put, List.setIfInBounds_toArray, List.set_cons_zero, List.set_cons_succ]
                refine wpAnyH_take (i := 8) (oi := { dst := some 73, op := Op.load 23 (Operand.tmp 72), type := 23, pos := _, after := #[{ on := 7, ground := Ground.data }, { on := 6, ground := Ground.guard }], guard := some (6, false) }) (v := .slice (some ⟨nb, no, none⟩) p.needs.length nc) rfl (by kernel_rfl) (by kernel_rfl) (by kernel_rfl) (fun _ _ _ h => h) (Or.inl ⟨by rfl, ?_⟩) hHeld ?_
                · intro u hu
                  have x1 := (Stp.of_below hu (fun _ => False)).cell k5 id; go_simp
                try simp only [Act.put, List.setIfInBounds_toArray, List.set_cons_zero, List.set_cons_succ]
                refine wpAnyH_take (i := 9) (oi := { dst := some 74, op := Op.move (Operand.tmp 7), type := 3, pos := _, after := #[{ on := 6, ground := Ground.guard }], guard := some (6, false) }) (v := .int .i64 (i : Int)) rfl (by kernel_rfl) (by kernel_rfl) (by kernel_rfl) (fun _ _ _ h => h) (Or.inl ⟨by rfl, ?_⟩) hHeld ?_
                · intro u hu
                  go_simp
                try simp only [Act.put, List.setIfInBounds_toArray, List.set_cons_zero, List.set_cons_succ]
                refine wpAnyH_take (i := 10) (oi := { dst := some 75, op := Op.indexAddr 23 (Operand.tmp 73) (Operand.tmp 74), type := 0, pos := _, after := #[{ on := 8, ground := Ground.data }, { on := 9, ground := Ground.data }, { on := 6, ground := Ground.guard }], guard := some (6, false) }) (v := .pointer (some ⟨nb, no + i, none⟩)) rfl (by kernel_rfl) (by kernel_rfl) (by kernel_rfl) (fun _ _ _ h => h) (Or.inl ⟨by rfl, ?_⟩) hHeld ?_
                · intro u hu
                  go_simp
                try simp only [Act.put, List.setIfInBounds_toArray, List.set_cons_zero, List.set_cons_succ]
                refine wpAnyH_take (i := 11) (oi := { dst := some 76, op := Op.load 3 (Operand.tmp 75), type := 3, pos := _, after := #[{ on := 10, ground := Ground.data }, { on := 6, ground := Ground.guard }], guard := some (6, false) }) (v := .int .i64 x) rfl (by kernel_rfl) (by kernel_rfl) (by kernel_rfl) (fun _ _ _ h => h) (Or.inl ⟨by rfl, ?_⟩) hHeld ?_
                · intro u hu
                  have x1 := (Stp.of_below hu (fun _ => False)).cell cn id; go_simp
                try simp only [Act.put, List.setIfInBounds_toArray, List.set_cons_zero, List.set_cons_succ]
                refine wpAnyH_take (i := 12) (oi := { dst := some 77, op := Op.move (Operand.tmp 0), type := 26, pos := _, after := #[{ on := 6, ground := Ground.guard }], guard := some (6, false) }) (v := .pointer (some ⟨g, 0, none⟩)) rfl (by kernel_rfl) (by kernel_rfl) (by kernel_rfl) (fun _ _ _ h => h) (Or.inl ⟨by rfl, ?_⟩) hHeld ?_
                · intro u hu
                  go_simp
                try simp only [Act.put, List.setIfInBounds_toArray, List.set_cons_zero, List.set_cons_succ]
                refine wpAnyH_take (i := 13) (oi := { dst := some 78, op := Op.nilCheck (Operand.tmp 77), type := 0, pos := _, after := #[{ on := 12, ground := Ground.data }, { on := 6, ground := Ground.guard }], guard := some (6, false) }) (v := .pointer (some ⟨g, 0, none⟩)) rfl (by kernel_rfl) (by kernel_rfl) (by kernel_rfl) (fun _ _ _ h => h) (Or.inl ⟨by rfl, ?_⟩) hHeld ?_
                · intro u hu
                  go_simp
                try simp only [Act.put, List.setIfInBounds_toArray, List.set_cons_zero, List.set_cons_succ]
                refine wpAnyH_take (i := 14) (oi := { dst := some 79, op := Op.fieldAddr 61 (Operand.tmp 78) 0, type := 0, pos := _, after := #[{ on := 13, ground := Ground.data }, { on := 6, ground := Ground.guard }], guard := some (6, false) }) (v := .pointer (some ⟨g, 0, none⟩)) rfl (by kernel_rfl) (by kernel_rfl) (by kernel_rfl) (fun _ _ _ h => h) (Or.inl ⟨by rfl, ?_⟩) hHeld ?_
                · intro u hu
                  go_simp
                try simp only [Act.put, List.setIfInBounds_toArray, List.set_cons_zero, List.set_cons_succ]
                refine wpAnyH_take (i := 15) (oi := { dst := some 80, op := Op.load 3 (Operand.tmp 79), type := 3, pos := _, after := #[{ on := 14, ground := Ground.data }, { on := 6, ground := Ground.guard }], guard := some (6, false) }) (v := .int .i64 Z.last) rfl (by kernel_rfl) (by kernel_rfl) (by kernel_rfl) (fun _ _ _ h => h) (Or.inl ⟨by rfl, ?_⟩) hHeld ?_
                · intro u hu
                  have x1 := (Stp.of_below hu (fun _ => False)).cell z0 id; go_simp
                try simp only [Act.put, List.setIfInBounds_toArray, List.set_cons_zero, List.set_cons_succ]
                refine wpAnyH_take (i := 16) (oi := { dst := some 81, op := Op.binOp BinOp.gtr 3 (Operand.tmp 76) (Operand.tmp 80) 3, type := 4, pos := _, after := #[{ on := 11, ground := Ground.data }, { on := 15, ground := Ground.data }, { on := 6, ground := Ground.guard }], guard := some (6, false) }) (v := .bool false) rfl (by kernel_rfl) (by kernel_rfl) (by kernel_rfl) (fun _ _ _ h => h) (Or.inl ⟨by rfl, ?_⟩) hHeld ?_
                · intro u hu
                  go_simp
                try simp only [Act.put, List.setIfInBounds_toArray, List.set_cons_zero, List.set_cons_succ]
                refine wpAnyH_take (i := 17) (oi := { dst := some 82, op := Op.pick (Operand.tmp 71) (Operand.const (Value.bool true)) (Operand.tmp 81), type := 4, pos := _, after := #[{ on := 6, ground := Ground.data }, { on := 16, ground := Ground.data }], guard := none }) (v := .bool false) rfl (by kernel_rfl) (by kernel_rfl) (by kernel_rfl) (fun _ _ _ h => h) (Or.inl ⟨by rfl, ?_⟩) hHeld ?_
                · intro u hu
                  go_simp
                try simp only [Act.put, List.setIfInBounds_toArray, List.set_cons_zero, List.set_cons_succ]
                refine wpAnyH_done (by kernel_rfl) ?_ _
                have B9 := bnext B hHeld (Nat.le_refl _)
                go_wp2_with fail
                go_roundw
                case rel => exact ⟨i + 1, by omega, by go_num, hst2, B9⟩
                case measure => simp [intOf]; omega
          · have a9 : ¬ (i : Int) < (p.needs.length : Int) := by omega
            rw [List.take_of_length_le (by omega)] at hgv
            have hl0 := H.ok.l0
            have fz := HB.cc.frozen 0
            have s3 : Stp (fun x => x = g) wr (wr.setCell ⟨g, 0, none⟩ (.int .i64 (Z.last + 1))) := (Stp.refl (fun x => x = g) wr).setCell (p := ⟨g, 0, none⟩) (.inl rfl) _
            have H3 := HB.bump hlt
            have hgg : g < w.heap.size := H.cc.lt
            have r3 := rB.step s3 (by omega)
            have m3 := (hpm.later (bnext b1 B (Nat.le_refl _))).step s3 (fun x hx e => hE x hx e)
            have S3 : Stp (fun x => x = g) w (wr.setCell ⟨g, 0, none⟩ (.int .i64 (Z.last + 1))) := (Stp.of_below (bnext b1 B (Nat.le_refl _)) (fun x => x = g)).next s3 (fun x hx => .inl hx)
            have hok : Z.addOk p = true := by unfold GZ.addOk; rw [hft.out, hgv]; rfl
            have eN : Hid (Z.addN p = Z.last + 1) := by show _ = _; unfold GZ.addN; rw [if_pos hok]
            have eE : Hid (Z.addE p = 0) := by show _ = _; unfold GZ.addE; rw [if_pos hok]
            have eZ : Hid (Z.add p = ⟨Z.last + 1, Z.l ++ [{ p with id := Z.last + 1, wr := false }]⟩) := by show _ = _; unfold GZ.add; rw [if_pos hok]
            have u1 : True := trivial
            have u2 : True := trivial
            have u3 : True := trivial
            clear hok bad
            go_upto_region 14 with (first
              | (clear u1; refine at_getP0 (by rfl) _ (by rfl) g1 (by rfl) p ⟨da, p.data.length, dc⟩ ⟨na, p.needs.length, nc⟩ r3 ?_)
              | (go_at_call 50; refine (rown_any m3 hd hn).mono ?_; rintro e w4 ⟨d', n', rfl, m4, b4⟩; have H4 := H3.later b4)
              | (clear u2; refine at_newP (by rfl) (by rfl) ?_; intro g8 w5 a3 a4 r5 b5; have H5 := H4.later b5)
              | (clear u3; refine at_putP (by rfl) _ _ (by rfl) g8 (by rfl) p d' n' (by rfl) _ r5 rfl ?_; intro w6 r6 s6
                 have g8l : w4.heap.size ≤ g8 := a3
                 have hg8 : g8 ≠ g := by have := H4.cc.lt; omega
                 have H6 := H5.step s6 (fun e => hg8 e.symm) (fun x hx e => by have := H4.lt x hx; omega)
                 obtain ⟨y0, y1⟩ := H6.cells
                 simp only at y0
                 have y3 := (Pt.cells r6).1
                 have y4 := r6.frozen 0
                 have y5 := (Pt.cells r6).2.2.2.2.2.2.2.2
                 have y6 := r6.frozen 8))
            have r7 : Cs ((w6.setCell ⟨g8, 0, none⟩ (.int .i64 (Z.last + 1))).setCell ⟨g8, 8, none⟩ (.bool false)) g8 (({ p with id := Z.last + 1, wr := false } : Pt).cs d' n') := (r6.set 0 (.int .i64 (Z.last + 1)) rfl).set 8 (.bool false) rfl
            have s7 : Stp (fun x => x = g8) w6 ((w6.setCell ⟨g8, 0, none⟩ (.int .i64 (Z.last + 1))).setCell ⟨g8, 8, none⟩ (.bool false)) := ((Stp.refl (fun x => x = g8) w6).setCell (p := ⟨g8, 0, none⟩) (.inl rfl) _).setCell (p := ⟨g8, 8, none⟩) (.inl rfl) _
            have H7 := H6.step s7 (fun e => hg8 e.symm) (fun x hx e => by have := H4.lt x hx; omega)
            have z3 : (wr.setCell ⟨g, 0, none⟩ (.int .i64 (Z.last + 1))).heap.size = wr.heap.size := by simp
            have hM : ∀ x, Made (wr.setCell ⟨g, 0, none⟩ (.int .i64 (Z.last + 1))) w4 x → x ≠ g8 := fun x hx e => by have := hx.2; omega
            have m7 := ((m4.later b5).step s6 hM).step s7 hM
            have S7 : Stp (fun x => x = g) w ((w6.setCell ⟨g8, 0, none⟩ (.int .i64 (Z.last + 1))).setCell ⟨g8, 8, none⟩ (.bool false)) := (((S3.next (Stp.of_below (bnext b4 b5 (Nat.le_refl _)) (fun x => x = g)) (fun x hx => .inl hx)).next s6 (fun x hx => .inr (by have := S3.size; have := b4.size; omega))).next s7 (fun x hx => .inr (by have := S3.size; have := b4.size; omega)))
            have hszB := (bnext b1 B (Nat.le_refl _)).size
            have hM2 : ∀ x, Made (wr.setCell ⟨g, 0, none⟩ (.int .i64 (Z.last + 1))) w4 x → w.heap.size ≤ x ∧ x < w6.heap.size := fun x hx => ⟨by have := hx.1; omega, by have := hx.2; have := b5.size; have := s6.size; omega⟩
            have hnil : a = none → L.length = 0 ∧ c = 0 := by
              obtain ⟨a', c', e, _, h⟩ := H.row.shape
              injection e with e1 e2 e3
              subst e1; subst e3; exact h
            have hfew := H.few
            have z7 := s7.size
            have l8 := r7.lt
            clear y0 y1 y3 y4 y5 y6 r6 s6 s7 H6 H5 H4 H3 m4 m3 r5 b5 b4 r3 s3 S3 z3 hM fz z0 z1 k5 rB HB
            generalize (w6.setCell ⟨g8, 0, none⟩ (.int .i64 (Z.last + 1))).setCell ⟨g8, 8, none⟩ (.bool false) = W at *
            have zW := S7.size
            have HS : ∀ u, Stp (fun x => W.heap.size ≤ x) W u → Rf u g ⟨Z.last + 1, Z.l⟩ a c L R := fun u hu => H7.step hu (fun e => by have := H7.cc.lt; omega) (fun x hx e => by have := H7.lt x hx; omega)
            have RS : ∀ u, Stp (fun x => W.heap.size ≤ x) W u → Cs u g8 (({ p with id := Z.last + 1, wr := false } : Pt).cs d' n') := fun u hu => r7.step hu (fun e => by omega)
            have FIN : ∀ w12 xa xn xc, Stp (fun x => W.heap.size ≤ x) W w12 → OwP w12 (.slice xa xn xc) (L ++ [⟨{ p with id := Z.last + 1, wr := false }, d', n'⟩]) → New W.heap.size (.slice xa xn xc) → Rh (w12.setCell ⟨g, 1, none⟩ (.slice xa xn xc)) g (Z.add p) (fun x => (R x ∨ Made w (w12.setCell ⟨g, 1, none⟩ (.slice xa xn xc)) x) ∧ x ≠ g) ∧ Stp (fun x => x = g) w (w12.setCell ⟨g, 1, none⟩ (.slice xa xn xc)) ∧ (w12.setCell ⟨g, 1, none⟩ (.slice xa xn xc)).cell? ⟨g8, 0, none⟩ = some (.int .i64 (Z.last + 1)) := fun w12 xa xn xc hs ho hn12 => by
              have s8 : Stp (fun x => x = g) w12 (w12.setCell ⟨g, 1, none⟩ (.slice xa xn xc)) := (Stp.refl (fun x => x = g) w12).setCell (p := ⟨g, 1, none⟩) (.inl rfl) _
              have z8 : (w12.setCell ⟨g, 1, none⟩ (.slice xa xn xc)).heap.size = w12.heap.size := by simp
              have zs := hs.size
              have hgW : g < W.heap.size := H7.cc.lt
              have hc : Cs (w12.setCell ⟨g, 1, none⟩ (.slice xa xn xc)) g [.int .i64 (Z.last + 1), .slice xa xn xc] := (HS _ hs).cc.set 1 _ rfl
              have hM3 : ∀ x, Made (wr.setCell ⟨g, 0, none⟩ (.int .i64 (Z.last + 1))) w4 x → Made w (w12.setCell ⟨g, 1, none⟩ (.slice xa xn xc)) x ∧ x ≠ g := fun x hx => ⟨⟨(hM2 x hx).1, by have := (hM2 x hx).2; omega⟩, fun e => by have := (hM2 x hx).1; omega⟩
              have m12 : PtM (w12.setCell ⟨g, 1, none⟩ (.slice xa xn xc)) (fun x => Made w (w12.setCell ⟨g, 1, none⟩ (.slice xa xn xc)) x ∧ x ≠ g) p d' n' := ((m7.step hs (fun x hx e => by have := (hM2 x hx).2; omega)).step s8 (fun x hx e => (hM3 x hx).2 e)).mono hM3
              refine ⟨?_, (S7.next hs (fun x hx => .inr (by omega))).next s8 (fun x hx => .inl hx), ?_⟩
              · rw [eZ.out]
                exact H7.added zW H.ok hlt hft.out hgv hp hn (ho.step s8 (fun r hr e => by have := hn12 r hr; omega)) (fun r hr => ⟨⟨by have := hn12 r hr; omega, by have := ho.lt hr; omega⟩, fun e => by have := hn12 r hr; omega⟩) hc ((hs.mono (fun x hx => .inl (.inr hx))).next s8 (fun x hx => .inl (.inl hx))) m12
              · exact ((RS _ hs).step s8 (fun e => hg8 e)).cell 0 _ rfl
            clear hM2 m7 S7 H7 r7
            go_cut [98] (fun _ wx => Rh wx g (Z.add p) (fun x => (R x ∨ Made w wx x) ∧ x ≠ g) ∧ Stp (fun x => x = g) w wx ∧ wx.cell? ⟨g8, 0, none⟩ = some (.int .i64 (Z.last + 1)))
            case first =>
              refine wp_region_last (S := fun u => Stp (fun x => W.heap.size ≤ x) W u) _ _ (by simp only [List.pop_toArray, List.dropLast_cons_cons, List.dropLast_singleton]; rfl) (by simp only [List.back?_toArray, List.getLast?_cons_cons, List.getLast?_singleton]; rfl) (by kernel_rfl) (by kernel_rfl) (Stp.refl _ _).drew (fun hHeld => ?_)
              refine wpAnyH_take (i := 0) (oi := { dst := some 98, op := Op.move (Operand.tmp 0), type := 26, pos := _, after := #[], guard := none }) (v := .pointer (some ⟨g, 0, none⟩)) rfl (by kernel_rfl) (by kernel_rfl) (by kernel_rfl) (fun _ _ _ h => h) (Or.inl ⟨by rfl, ?_⟩) hHeld ?_
              · intro u hu
                go_simp
              try simp only [Act.put, List.setIfInBounds_toArray, List.set_cons_zero, List.set_cons_succ]
              refine wpAnyH_take (i := 2) (oi := { dst := some 100, op := Op.move (Operand.tmp 0), type := 26, pos := _, after := #[], guard := none }) (v := .pointer (some ⟨g, 0, none⟩)) rfl (by kernel_rfl) (by kernel_rfl) (by kernel_rfl) (fun _ _ _ h => h) (Or.inl ⟨by rfl, ?_⟩) hHeld ?_
              · intro u hu
                go_simp
              try simp only [Act.put, List.setIfInBounds_toArray, List.set_cons_zero, List.set_cons_succ]
              refine wpAnyH_take (i := 3) (oi := { dst := some 101, op := Op.nilCheck (Operand.tmp 100), type := 0, pos := _, after := #[{ on := 2, ground := Ground.data }], guard := none }) (v := .pointer (some ⟨g, 0, none⟩)) rfl (by kernel_rfl) (by kernel_rfl) (by kernel_rfl) (fun _ _ _ h => h) (Or.inl ⟨by rfl, ?_⟩) hHeld ?_
              · intro u hu
                go_simp
              try simp only [Act.put, List.setIfInBounds_toArray, List.set_cons_zero, List.set_cons_succ]
              refine wpAnyH_take (i := 4) (oi := { dst := some 102, op := Op.fieldAddr 61 (Operand.tmp 101) 1, type := 0, pos := _, after := #[{ on := 3, ground := Ground.data }], guard := none }) (v := .pointer (some ⟨g, 1, none⟩)) rfl (by kernel_rfl) (by kernel_rfl) (by kernel_rfl) (fun _ _ _ h => h) (Or.inl ⟨by rfl, ?_⟩) hHeld ?_
              · intro u hu
                go_simp
              try simp only [Act.put, List.setIfInBounds_toArray, List.set_cons_zero, List.set_cons_succ]
              refine wpAnyH_take (i := 5) (oi := { dst := some 103, op := Op.load 22 (Operand.tmp 102), type := 22, pos := _, after := #[{ on := 4, ground := Ground.data }], guard := none }) (v := .slice a L.length c) rfl (by kernel_rfl) (by kernel_rfl) (by kernel_rfl) (fun _ _ _ h => h) (Or.inl ⟨by rfl, ?_⟩) hHeld ?_
              · intro u hu
                have x1 := (HS _ hu).cells.2; go_simp
              try simp only [Act.put, List.setIfInBounds_toArray, List.set_cons_zero, List.set_cons_succ]
              refine wpAnyH_take (i := 7) (oi := { dst := some 105, op := Op.load 40 (Operand.tmp 8), type := 40, pos := _, after := #[], guard := none }) (v := .agg (({ p with id := Z.last + 1, wr := false } : Pt).cs d' n').toArray) rfl (by kernel_rfl) (by kernel_rfl) (by kernel_rfl) (fun _ _ _ h => h)
                (yields_P (by rfl) _ (by rfl) g8 (by rfl) { p with id := Z.last + 1, wr := false } d' n' (fun u hu => RS u hu)) hHeld ?_
              try simp only [Act.put, List.setIfInBounds_toArray, List.set_cons_zero, List.set_cons_succ]
              refine wpAnyH_ready (rs := [1, 8]) (by kernel_rfl) (by simp) ?_
              refine (AllReadyH.cons (o := { dst := some 99, op := Op.buildSlice 22 0 #[], type := 22, pos := _, after := #[], guard := none }) rfl (fun K hK => ?_) (AllReadyH.cons (o := { dst := some 106, op := Op.buildSlice 22 1 #[(0, Operand.tmp 105)], type := 22, pos := _, after := #[{ on := 7, ground := Ground.data }], guard := none }) rfl (fun K hK => ?_) AllReadyH.nil))
              · skip
                have zH1 := hHeld.size
                refine step_bs0P rfl (by rfl) ?_
                intro g9 w9 e9 o9 b9
                have l9 : g9 < w9.heap.size := o9.lt rfl
                have W9 : W.heap.size ≤ g9 := Nat.le_trans zH1 e9
                refine hK.out _ _ (hHeld.next (Stp.of_below b9 (fun _ => False)) (fun x e => e.elim)) (fun hHeld => ?_)
                clear hK K
                have zz9 := b9.size
                try (replace q10 := q10.later b9)
                try simp only [Act.put, List.setIfInBounds_toArray, List.set_cons_zero, List.set_cons_succ]
                refine wpAnyH_ready (rs := [6, 8]) (by kernel_rfl) (by simp) ?_
                refine (AllReadyH.cons (o := { dst := some 104, op := Op.call { callee := Callee.builtin Builtin.append, args := #[Operand.tmp 99, Operand.tmp 103], argTypes := #[22, 22] }, type := 22, pos := _, after := #[{ on := 1, ground := Ground.data }, { on := 5, ground := Ground.data }], guard := none }) rfl (fun K hK => ?_) (AllReadyH.cons (o := { dst := some 106, op := Op.buildSlice 22 1 #[(0, Operand.tmp 105)], type := 22, pos := _, after := #[{ on := 7, ground := Ground.data }], guard := none }) rfl (fun K hK => ?_) AllReadyH.nil))
                · skip
                  refine step_appR elP W.heap.size rfl _ _ (by rfl) (by rfl) o9 (fun r e => (ob_eq e) ▸ W9) a c (fl L) (by rfl) (fl_len L) hnil (HS _ hHeld).row.news (fl_one L) (by simp only [List.length_nil]; omega) hHeld.size ?_
                  intro v6 w11 hA
                  have o11 : OwP w11 v6 L := ow_11 hA
                  have n11 := hA.2.1
                  have s11 := hA.2.2.2.1
                  refine hK.out _ _ (hHeld.next s11 (fun x e => .inl ((ob_eq e) ▸ W9))) (fun hHeld => ?_)
                  clear hK K
                  have zz11 := s11.size
                  try (replace q10 := q10.step s11 (fun e => by have := ob_eq e; omega))
                  try simp only [Act.put, List.setIfInBounds_toArray, List.set_cons_zero, List.set_cons_succ]
                  refine wpAnyH_ready (rs := [8]) (by kernel_rfl) (by simp) ?_
                  refine (AllReadyH.cons (o := { dst := some 106, op := Op.buildSlice 22 1 #[(0, Operand.tmp 105)], type := 22, pos := _, after := #[{ on := 7, ground := Ground.data }], guard := none }) rfl (fun K hK => ?_) AllReadyH.nil)
                  refine step_bs1P rfl _ (by rfl) ⟨{ p with id := Z.last + 1, wr := false }, d', n'⟩ (by rfl) ?_
                  intro g10 w10 e10 q10 b10
                  have l10 := q10.lt
                  refine hK.out _ _ (hHeld.next (Stp.of_below b10 (fun _ => False)) (fun x e => e.elim)) (fun hHeld => ?_)
                  clear hK K
                  have zz10 := b10.size
                  try (replace o9 := o9.later b10)
                  try (replace o11 := o11.later b10)
                  try simp only [Act.put, List.setIfInBounds_toArray, List.set_cons_zero, List.set_cons_succ]
                  refine wpAnyH_ready (rs := [9]) (by kernel_rfl) (by simp) ?_
                  refine (AllReadyH.cons (o := { dst := some 107, op := Op.call { callee := Callee.builtin Builtin.append, args := #[Operand.tmp 104, Operand.tmp 106], argTypes := #[22, 22] }, type := 22, pos := _, after := #[{ on := 6, ground := Ground.data }, { on := 8, ground := Ground.data }, { on := 6, ground := Ground.chain }], guard := none }) rfl (fun K hK => ?_) AllReadyH.nil)
                  refine step_appR elP W.heap.size rfl _ _ (by rfl) (by rfl) o11 n11 (some ⟨g10, 0, none⟩) 1 (Pe.cs ⟨{ p with id := Z.last + 1, wr := false }, d', n'⟩) (by rfl) (by rfl) (fun e => by cases e) (fun ad e j u hu => by injection e with e; subst e; rw [Addr.add_lit, Nat.zero_add]; exact q10.cell j u hu) (Pe.cs_one _) (by omega) hHeld.size ?_
                  intro v12 w12 hA2
                  have o12 : OwP w12 v12 (L ++ [⟨{ p with id := Z.last + 1, wr := false }, d', n'⟩]) := ow_12 hA2
                  have n12 := hA2.2.1
                  refine hK.out _ _ (hHeld.next hA2.2.2.2.1 (fun x e => .inl (n11 x e))) (fun hHeld => ?_)
                  clear hK K
                  try simp only [Act.put, List.setIfInBounds_toArray, List.set_cons_zero, List.set_cons_succ]
                  refine wpAnyH_take (i := 10) (oi := { dst := some 108, op := Op.nilCheck (Operand.tmp 98), type := 0, pos := _, after := #[{ on := 0, ground := Ground.data }, { on := 0, ground := Ground.phase }, { on := 1, ground := Ground.phase }, { on := 2, ground := Ground.phase }, { on := 3, ground := Ground.phase }, { on := 4, ground := Ground.phase }, { on := 5, ground := Ground.phase }, { on := 6, ground := Ground.phase }, { on := 7, ground := Ground.phase }, { on := 8, ground := Ground.phase }, { on := 9, ground := Ground.phase }], guard := none }) (v := .pointer (some ⟨g, 0, none⟩)) rfl (by kernel_rfl) (by kernel_rfl) (by kernel_rfl) (fun _ _ _ h => h) (Or.inl ⟨by rfl, ?_⟩) hHeld ?_
                  · intro u hu
                    go_simp
                  try simp only [Act.put, List.setIfInBounds_toArray, List.set_cons_zero, List.set_cons_succ]
                  refine wpAnyH_take (i := 11) (oi := { dst := some 109, op := Op.fieldAddr 61 (Operand.tmp 108) 1, type := 0, pos := _, after := #[{ on := 10, ground := Ground.data }, { on := 0, ground := Ground.phase }, { on := 1, ground := Ground.phase }, { on := 2, ground := Ground.phase }, { on := 3, ground := Ground.phase }, { on := 4, ground := Ground.phase }, { on := 5, ground := Ground.phase }, { on := 6, ground := Ground.phase }, { on := 7, ground := Ground.phase }, { on := 8, ground := Ground.phase }, { on := 9, ground := Ground.phase }], guard := none }) (v := .pointer (some ⟨g, 1, none⟩)) rfl (by kernel_rfl) (by kernel_rfl) (by kernel_rfl) (fun _ _ _ h => h) (Or.inl ⟨by rfl, ?_⟩) hHeld ?_
                  · intro u hu
                    go_simp
                  try simp only [Act.put, List.setIfInBounds_toArray, List.set_cons_zero, List.set_cons_succ]
                  refine wpAnyH_done (by kernel_rfl) ?_ _
                  show wpList _ _ _ [_] _ _
                  obtain ⟨xa, xn, xc, rfl⟩ := o12.shape'
                  have fin := FIN w12 xa xn xc hHeld o12 n12
                  have x1 := (HS _ hHeld).cells.2
                  have x2 := (HS _ hHeld).cc.frozen 1
                  refine op_unit (by rfl) (w12.setCell ⟨g, 1, none⟩ (.slice xa xn xc)) (by simp [execOp, Instr.storeAt, Instr.sureAddr]; go_simp) ?_
                  clear x1 x2
                  go_wp2_with fail
                  go_meet
                  exact fin
                · skip
                  refine step_bs1P rfl _ (by rfl) ⟨{ p with id := Z.last + 1, wr := false }, d', n'⟩ (by rfl) ?_
                  intro g10 w10 e10 q10 b10
                  have l10 := q10.lt
                  refine hK.out _ _ (hHeld.next (Stp.of_below b10 (fun _ => False)) (fun x e => e.elim)) (fun hHeld => ?_)
                  clear hK K
                  have zz10 := b10.size
                  try (replace o9 := o9.later b10)
                  try (replace o11 := o11.later b10)
                  try simp only [Act.put, List.setIfInBounds_toArray, List.set_cons_zero, List.set_cons_succ]
                  refine wpAnyH_ready (rs := [6]) (by kernel_rfl) (by simp) ?_
                  refine (AllReadyH.cons (o := { dst := some 104, op := Op.call { callee := Callee.builtin Builtin.append, args := #[Operand.tmp 99, Operand.tmp 103], argTypes := #[22, 22] }, type := 22, pos := _, after := #[{ on := 1, ground := Ground.data }, { on := 5, ground := Ground.data }], guard := none }) rfl (fun K hK => ?_) AllReadyH.nil)
                  refine step_appR elP W.heap.size rfl _ _ (by rfl) (by rfl) o9 (fun r e => (ob_eq e) ▸ W9) a c (fl L) (by rfl) (fl_len L) hnil (HS _ hHeld).row.news (fl_one L) (by simp only [List.length_nil]; omega) hHeld.size ?_
                  intro v6 w11 hA
                  have o11 : OwP w11 v6 L := ow_11 hA
                  have n11 := hA.2.1
                  have s11 := hA.2.2.2.1
                  refine hK.out _ _ (hHeld.next s11 (fun x e => .inl ((ob_eq e) ▸ W9))) (fun hHeld => ?_)
                  clear hK K
                  have zz11 := s11.size
                  try (replace q10 := q10.step s11 (fun e => by have := ob_eq e; omega))
                  try simp only [Act.put, List.setIfInBounds_toArray, List.set_cons_zero, List.set_cons_succ]
                  refine wpAnyH_ready (rs := [9]) (by kernel_rfl) (by simp) ?_
                  refine (AllReadyH.cons (o := { dst := some 107, op := Op.call { callee := Callee.builtin Builtin.append, args := #[Operand.tmp 104, Operand.tmp 106], argTypes := #[22, 22] }, type := 22, pos := _, after := #[{ on := 6, ground := Ground.data }, { on := 8, ground := Ground.data }, { on := 6, ground := Ground.chain }], guard := none }) rfl (fun K hK => ?_) AllReadyH.nil)
                  refine step_appR elP W.heap.size rfl _ _ (by rfl) (by rfl) o11 n11 (some ⟨g10, 0, none⟩) 1 (Pe.cs ⟨{ p with id := Z.last + 1, wr := false }, d', n'⟩) (by rfl) (by rfl) (fun e => by cases e) (fun ad e j u hu => by injection e with e; subst e; rw [Addr.add_lit, Nat.zero_add]; exact q10.cell j u hu) (Pe.cs_one _) (by omega) hHeld.size ?_
                  intro v12 w12 hA2
                  have o12 : OwP w12 v12 (L ++ [⟨{ p with id := Z.last + 1, wr := false }, d', n'⟩]) := ow_12 hA2
                  have n12 := hA2.2.1
                  refine hK.out _ _ (hHeld.next hA2.2.2.2.1 (fun x e => .inl (n11 x e))) (fun hHeld => ?_)
                  clear hK K
                  try simp only [Act.put, List.setIfInBounds_toArray, List.set_cons_zero, List.set_cons_succ]
                  refine wpAnyH_take (i := 10) (oi := { dst := some 108, op := Op.nilCheck (Operand.tmp 98), type := 0, pos := _, after := #[{ on := 0, ground := Ground.data }, { on := 0, ground := Ground.phase }, { on := 1, ground := Ground.phase }, { on := 2, ground := Ground.phase }, { on := 3, ground := Ground.phase }, { on := 4, ground := Ground.phase }, { on := 5, ground := Ground.phase }, { on := 6, ground := Ground.phase }, { on := 7, ground := Ground.phase }, { on := 8, ground := Ground.phase }, { on := 9, ground := Ground.phase }], guard := none }) (v := .pointer (some ⟨g, 0, none⟩)) rfl (by kernel_rfl) (by kernel_rfl) (by kernel_rfl) (fun _ _ _ h => h) (Or.inl ⟨by rfl, ?_⟩) hHeld ?_
                  · intro u hu
                    go_simp
                  try simp only [Act.put, List.setIfInBounds_toArray, List.set_cons_zero, List.set_cons_succ]
                  refine wpAnyH_take (i := 11) (oi := { dst := some 109, op := Op.fieldAddr 61 (Operand.tmp 108) 1, type := 0, pos := _, after := #[{ on := 10, ground := Ground.data }, { on := 0, ground := Ground.phase }, { on := 1, ground := Ground.phase }, { on := 2, ground := Ground.phase }, { on := 3, ground := Ground.phase }, { on := 4, ground := Ground.phase }, { on := 5, ground := Ground.phase }, { on := 6, ground := Ground.phase }, { on := 7, ground := Ground.phase }, { on := 8, ground := Ground.phase }, { on := 9, ground := Ground.phase }], guard := none }) (v := .pointer (some ⟨g, 1, none⟩)) rfl (by kernel_rfl) (by kernel_rfl) (by kernel_rfl) (fun _ _ _ h => h) (Or.inl ⟨by rfl, ?_⟩) hHeld ?_
                  · intro u hu
                    go_simp
                  try simp only [Act.put, List.setIfInBounds_toArray, List.set_cons_zero, List.set_cons_succ]
                  refine wpAnyH_done (by kernel_rfl) ?_ _
                  show wpList _ _ _ [_] _ _
                  obtain ⟨xa, xn, xc, rfl⟩ := o12.shape'
                  have fin := FIN w12 xa xn xc hHeld o12 n12
                  have x1 := (HS _ hHeld).cells.2
                  have x2 := (HS _ hHeld).cc.frozen 1
                  refine op_unit (by rfl) (w12.setCell ⟨g, 1, none⟩ (.slice xa xn xc)) (by simp [execOp, Instr.storeAt, Instr.sureAddr]; go_simp) ?_
                  clear x1 x2
                  go_wp2_with fail
                  go_meet
                  exact fin
              · skip
                refine step_bs1P rfl _ (by rfl) ⟨{ p with id := Z.last + 1, wr := false }, d', n'⟩ (by rfl) ?_
                intro g10 w10 e10 q10 b10
                have l10 := q10.lt
                refine hK.out _ _ (hHeld.next (Stp.of_below b10 (fun _ => False)) (fun x e => e.elim)) (fun hHeld => ?_)
                clear hK K
                have zz10 := b10.size
                try (replace o9 := o9.later b10)
                try (replace o11 := o11.later b10)
                try simp only [Act.put, List.setIfInBounds_toArray, List.set_cons_zero, List.set_cons_succ]
                refine wpAnyH_ready (rs := [1]) (by kernel_rfl) (by simp) ?_
                refine (AllReadyH.cons (o := { dst := some 99, op := Op.buildSlice 22 0 #[], type := 22, pos := _, after := #[], guard := none }) rfl (fun K hK => ?_) AllReadyH.nil)
                have zH1 := hHeld.size
                refine step_bs0P rfl (by rfl) ?_
                intro g9 w9 e9 o9 b9
                have l9 : g9 < w9.heap.size := o9.lt rfl
                have W9 : W.heap.size ≤ g9 := Nat.le_trans zH1 e9
                refine hK.out _ _ (hHeld.next (Stp.of_below b9 (fun _ => False)) (fun x e => e.elim)) (fun hHeld => ?_)
                clear hK K
                have zz9 := b9.size
                try (replace q10 := q10.later b9)
                try simp only [Act.put, List.setIfInBounds_toArray, List.set_cons_zero, List.set_cons_succ]
                refine wpAnyH_ready (rs := [6]) (by kernel_rfl) (by simp) ?_
                refine (AllReadyH.cons (o := { dst := some 104, op := Op.call { callee := Callee.builtin Builtin.append, args := #[Operand.tmp 99, Operand.tmp 103], argTypes := #[22, 22] }, type := 22, pos := _, after := #[{ on := 1, ground := Ground.data }, { on := 5, ground := Ground.data }], guard := none }) rfl (fun K hK => ?_) AllReadyH.nil)
                refine step_appR elP W.heap.size rfl _ _ (by rfl) (by rfl) o9 (fun r e => (ob_eq e) ▸ W9) a c (fl L) (by rfl) (fl_len L) hnil (HS _ hHeld).row.news (fl_one L) (by simp only [List.length_nil]; omega) hHeld.size ?_
                intro v6 w11 hA
                have o11 : OwP w11 v6 L := ow_11 hA
                have n11 := hA.2.1
                have s11 := hA.2.2.2.1
                refine hK.out _ _ (hHeld.next s11 (fun x e => .inl ((ob_eq e) ▸ W9))) (fun hHeld => ?_)
                clear hK K
                have zz11 := s11.size
                try (replace q10 := q10.step s11 (fun e => by have := ob_eq e; omega))
                try simp only [Act.put, List.setIfInBounds_toArray, List.set_cons_zero, List.set_cons_succ]
                refine wpAnyH_ready (rs := [9]) (by kernel_rfl) (by simp) ?_
                refine (AllReadyH.cons (o := { dst := some 107, op := Op.call { callee := Callee.builtin Builtin.append, args := #[Operand.tmp 104, Operand.tmp 106], argTypes := #[22, 22] }, type := 22, pos := _, after := #[{ on := 6, ground := Ground.data }, { on := 8, ground := Ground.data }, { on := 6, ground := Ground.chain }], guard := none }) rfl (fun K hK => ?_) AllReadyH.nil)
                refine step_appR elP W.heap.size rfl _ _ (by rfl) (by rfl) o11 n11 (some ⟨g10, 0, none⟩) 1 (Pe.cs ⟨{ p with id := Z.last + 1, wr := false }, d', n'⟩) (by rfl) (by rfl) (fun e => by cases e) (fun ad e j u hu => by injection e with e; subst e; rw [Addr.add_lit, Nat.zero_add]; exact q10.cell j u hu) (Pe.cs_one _) (by omega) hHeld.size ?_
                intro v12 w12 hA2
                have o12 : OwP w12 v12 (L ++ [⟨{ p with id := Z.last + 1, wr := false }, d', n'⟩]) := ow_12 hA2
                have n12 := hA2.2.1
                refine hK.out _ _ (hHeld.next hA2.2.2.2.1 (fun x e => .inl (n11 x e))) (fun hHeld => ?_)
                clear hK K
                try simp only [Act.put, List.setIfInBounds_toArray, List.set_cons_zero, List.set_cons_succ]
                refine wpAnyH_take (i := 10) (oi := { dst := some 108, op := Op.nilCheck (Operand.tmp 98), type := 0, pos := _, after := #[{ on := 0, ground := Ground.data }, { on := 0, ground := Ground.phase }, { on := 1, ground := Ground.phase }, { on := 2, ground := Ground.phase }, { on := 3, ground := Ground.phase }, { on := 4, ground := Ground.phase }, { on := 5, ground := Ground.phase }, { on := 6, ground := Ground.phase }, { on := 7, ground := Ground.phase }, { on := 8, ground := Ground.phase }, { on := 9, ground := Ground.phase }], guard := none }) (v := .pointer (some ⟨g, 0, none⟩)) rfl (by kernel_rfl) (by kernel_rfl) (by kernel_rfl) (fun _ _ _ h => h) (Or.inl ⟨by rfl, ?_⟩) hHeld ?_
                · intro u hu
                  go_simp
                try simp only [Act.put, List.setIfInBounds_toArray, List.set_cons_zero, List.set_cons_succ]
                refine wpAnyH_take (i := 11) (oi := { dst := some 109, op := Op.fieldAddr 61 (Operand.tmp 108) 1, type := 0, pos := _, after := #[{ on := 10, ground := Ground.data }, { on := 0, ground := Ground.phase }, { on := 1, ground := Ground.phase }, { on := 2, ground := Ground.phase }, { on := 3, ground := Ground.phase }, { on := 4, ground := Ground.phase }, { on := 5, ground := Ground.phase }, { on := 6, ground := Ground.phase }, { on := 7, ground := Ground.phase }, { on := 8, ground := Ground.phase }, { on := 9, ground := Ground.phase }], guard := none }) (v := .pointer (some ⟨g, 1, none⟩)) rfl (by kernel_rfl) (by kernel_rfl) (by kernel_rfl) (fun _ _ _ h => h) (Or.inl ⟨by rfl, ?_⟩) hHeld ?_
                · intro u hu
                  go_simp
                try simp only [Act.put, List.setIfInBounds_toArray, List.set_cons_zero, List.set_cons_succ]
                refine wpAnyH_done (by kernel_rfl) ?_ _
                show wpList _ _ _ [_] _ _
                obtain ⟨xa, xn, xc, rfl⟩ := o12.shape'
                have fin := FIN w12 xa xn xc hHeld o12 n12
                have x1 := (HS _ hHeld).cells.2
                have x2 := (HS _ hHeld).cc.frozen 1
                refine op_unit (by rfl) (w12.setCell ⟨g, 1, none⟩ (.slice xa xn xc)) (by simp [execOp, Instr.storeAt, Instr.sureAddr]; go_simp) ?_
                clear x1 x2
                go_wp2_with fail
                go_meet
                exact fin
            case rest =>
              obtain ⟨k1, k2, k3⟩ := hcut
              clear HS RS FIN
              go_wp2_with fail
              go_returns
              exact ⟨by rw [eN.out, eE.out]; rfl, k1, k2⟩
end Go.Proofs.Ytdfifneikmlmoaa
