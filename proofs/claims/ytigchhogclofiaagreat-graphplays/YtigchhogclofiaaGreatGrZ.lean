/-
  What Needed of layer 14 does of a graph that is none: no statement is proved here.
-/
import Derived.Test.YtigchhogclofiaaGreatGrY
namespace Go.Proofs.YtigchhogclofiaaGreat
open Go.ChangeShapes Go.WideShapes Go.ChangeAt Go.RowKit Go.Shelf
set_option linter.unusedVariables false
set_option linter.unusedSimpArgs false
attribute [local go_sem] Oper.semAt_some

theorem reverse_none (w : World) : Calls Tryz.prog 70 #[.slice none 0 0] w fun e w' => e = .returned (.tuple #[]) ∧ w = w' := by
  refine (Any.slices_Reverse_int_empty lays112 none 0 w).mono ?_
  rintro e w' ⟨rfl, rfl⟩; exact ⟨rfl, rfl⟩
set_option maxRecDepth 100000 in
set_option maxHeartbeats 2000000 in
theorem back_any (a : Option Addr) (n c : Nat) (w : World) : Calls Tryz.prog 69 #[.slice a n c] w fun e w' => ∃ bx, e = .returned (.func (.func 80) #[] #[.pointer (some ⟨bx, 0, none⟩)]) ∧ w.heap.size ≤ bx ∧ Cs w' bx [.slice a n c] ∧ Below w.heap.size w w' := by
  have t1 : True := trivial
  have hb : ∀ (w : World), (Instr.box 28 (.slice a n c)).run Tryz.prog w = .ok (.pointer (some ⟨w.heap.size, 0, none⟩)) (w.alloc (.cells #[.slice a n c] 28)) := fun w => by
    simp [Instr.box, newVar, Value.cells, go_sem]
  go_enter Tryz.func69, Tryz.ntmps69
  go_wp2
  go_returns
  exact ⟨w.heap.size, rfl, Nat.le_refl _, Cs.made w [.slice a n c] _ (by simp [Value.oneCell']), (Below.refl _ w).alloc (Nat.le_refl _) _⟩
/-- What Needed makes first. -/
def wA (w : World) (gv : Value) : World := ((w.alloc (.cells #[gv] 23)).alloc (.map #[] 0)).alloc (.cells #[.map (some (w.heap.size + 1))] 82)
def wB (w : World) : World := ((w.alloc (.map #[] 0)).alloc (.cells #[.map (some w.heap.size)] 84)).alloc (.cells #[.slice none 0 0] 28)
section
variable (w : World) (gv : Value)
theorem wA_b : Below w.heap.size w (wA w gv) := (((Below.refl _ w).alloc (Nat.le_refl _) _).alloc (by simp) _).alloc (by simp; omega) _
theorem wA_m : MpS (wA w gv) (w.heap.size + 1) (fun _ => false) 0 := by
  have h := MpS.made (w.alloc (.cells #[gv] 23))
  rw [show (w.alloc (.cells #[gv] 23)).heap.size = w.heap.size + 1 by simp] at h
  exact h.later ((Below.refl _ _).alloc (Nat.le_refl _) _)
theorem wA_g (h1 : gv.oneCell' = true) : Cs (wA w gv) w.heap.size [gv] :=
  ((Cs.made w [gv] _ (by simpa using h1)).later ((Below.refl _ _).alloc (Nat.le_refl _) _)).later ((Below.refl _ _).alloc (Nat.le_refl _) _)
theorem wA_v : Cs (wA w gv) (w.heap.size + 1 + 1) [.map (some (w.heap.size + 1))] := by
  have h := Cs.made ((w.alloc (.cells #[gv] 23)).alloc (.map #[] 0)) [.map (some (w.heap.size + 1))] 82 (by simp [Value.oneCell'])
  rw [show ((w.alloc (.cells #[gv] 23)).alloc (.map #[] 0)).heap.size = w.heap.size + 1 + 1 by simp] at h
  exact h
theorem wB_b : Below w.heap.size w (wB w) := (((Below.refl _ w).alloc (Nat.le_refl _) _).alloc (by simp) _).alloc (by simp; omega) _
theorem wB_m : MpI Tryz.prog 3 (wB w) w.heap.size (fun _ => none) := ((MpI.made w _ _).later ((Below.refl _ _).alloc (Nat.le_refl _) _)).later ((Below.refl _ _).alloc (Nat.le_refl _) _)
theorem wB_v : Cs (wB w) (w.heap.size + 1) [.map (some w.heap.size)] := by
  have h := Cs.made (w.alloc (.map #[] 0)) [.map (some w.heap.size)] 84 (by simp [Value.oneCell'])
  rw [show (w.alloc (.map #[] 0)).heap.size = w.heap.size + 1 by simp] at h
  exact h.later ((Below.refl _ _).alloc (Nat.le_refl _) _)
theorem wB_l : Cs (wB w) (w.heap.size + 1 + 1) [.slice none 0 0] := by
  have h := Cs.made ((w.alloc (.map #[] 0)).alloc (.cells #[.map (some w.heap.size)] 84)) [.slice none 0 0] 28 (by simp [Value.oneCell'])
  rw [show ((w.alloc (.map #[] 0)).alloc (.cells #[.map (some w.heap.size)] 84)).heap.size = w.heap.size + 1 + 1 by simp] at h
  exact h
end
theorem ownFrom_stp {β : Type} {B : Nat} {I : β → World → Prop} (h : ∀ s W W', I s W → Stp (fun x => B ≤ x) W W' → I s W') : OwnFrom B I := fun s W W' row hs hg hr => h s W W' hs (Stp.of_grown hg (fun x e => .inl (hr x e).1))
set_option maxRecDepth 100000 in
set_option maxHeartbeats 2000000 in
/-- No number: no round. -/
theorem back0_stops {w : World} {bx : Nat} {a : Option Addr} {c : Nat} (n : Nat) (r : Cs w bx [.slice a 0 c]) :
    SeqStopsK Fence.wide n Tryz.prog 80 #[.pointer (some ⟨bx, 0, none⟩)] (fun x : Int × Int => #[Value.int .i64 x.1, Value.int .i64 x.2]) (fun _ _ => True) (fun ys => ys = []) (fun _ => True) 0 w := fun l J Jx W hW _ _ hY h0 => by
  have hc := (r.later hW).cell 0 _ rfl
  refine callsIn_of_wp Tryz.func80 rfl trivial ?_ rfl
  simp only [Tryz.ntmps80, List.size_toArray, List.length_cons, List.length_nil, Nat.reduceAdd, Nat.reduceSub, Array.replicate_succ, Array.replicate_zero, List.push_toArray, List.append_toArray, List.nil_append, List.cons_append]
  gi_wp2
  gi_loopw [3] (fun i wr => i = .int .i64 (-1) ∧ J [] wr) (fun _ _ => 0)
  case atStart => exact ⟨by go_num, h0⟩
  case round =>
    obtain ⟨rfl, hJs⟩ := hrel
    gi_wp2
    go_end0
    exact ⟨⟨_, rfl⟩, .inl ⟨_, rfl, hJs⟩⟩
set_option maxRecDepth 100000 in
set_option maxHeartbeats 4000000 in
theorem needed_nil {w : World} {s : Sv} {l : List Int} (hs : InsS w s l) (hl : l.length ≤ 1000) :
    Calls Tryz.prog 41 #[.pointer none, .slice s.a s.n s.c] w fun e w' => e = .returned (.slice none 0 0) ∧ Below w.heap.size w w' := by
  have hmm := @run_makeMap Tryz.prog
  refine (callsIn_wide (n := 6)).1 ?_
  refine callsIn_of_wp_marks Tryz.func41 rfl trivial ?_ rfl
  simp only [Tryz.ntmps41, List.size_toArray, List.length_cons, List.length_nil, Nat.reduceAdd, Nat.reduceSub, Array.replicate_succ, Array.replicate_zero, List.push_toArray, List.append_toArray, List.nil_append, List.cons_append]
  refine wpIn_wide.2 ?_
  have bA := wA_b w (.pointer none)
  have hW := want_any (wA_m w (.pointer none)) (hs.later bA) (by omega)
  have gA := wA_g w (.pointer none) rfl
  unfold wA at hW
  go_wp2_with (first
    | (go_at_call 68; refine hW.mono ?_; rintro e w3 ⟨rfl, M3, s3⟩; clear hW
       have B3 : Below w.heap.size w w3 := ((Stp.of_below bA (fun _ => False)).next s3 (fun x e => .inr (by omega))).below (Nat.le_refl _) (fun x e => e.elim)
       have g3 := gA.step s3 (by omega)
       have bB := wB_b w3
       have gB := (g3.later bB).cell 0 _ rfl
       have lB := wB_l w3
       unfold wB at gB)
    | (go_at_call 31; refine (all_nil _).mono ?_; rintro e w4 ⟨rfl, rfl⟩)
    | (go_at_call 69; refine (back_any _ _ _ _).mono ?_; rintro e w5 ⟨bx, rfl, h5, r5, b5⟩
       have l5 := (lB.later b5))
    )
  refine (wpIn_wide (n := 6)).1 ?_
  have z5 := b5.size
  have zB := bB.size
  have lt5 := l5.lt
  have B5 : Below w.heap.size w w5 := bnext (bnext B3 bB (Nat.le_refl _)) b5 (Nat.le_refl _)
  refine wpIn_rangeFunc_ownG (F := Fence.wide) (n := 6) (w0 := w5) rfl (by omega) (gf := 80) (lb := #[.pointer (some ⟨bx, 0, none⟩)]) rfl trivial (enters_of Tryz.func80 (by kernel_rfl) rfl)
    (back0_stops 5 r5) (fun _ _ => trivial) (fun _ _ _ _ _ _ _ _ => trivial) (Below.refl _ _) (fun _ => rfl)
    (fun _ W => Cs W (w3.heap.size + 1 + 1) [.slice none 0 0] ∧ Below w.heap.size w W)
    (fun _ _ _ => False)
    (ownFrom_stp fun s W W' h k => ⟨h.1.step k (by omega), h.2.trans (k.below (Nat.le_trans (Nat.le_refl _) h.2.size) (fun x hx => Nat.le_trans B5.size hx))⟩)
    (fun _ _ _ _ _ hs _ _ => hs)
    ⟨l5, B5⟩ ?a1 ?assign ?body ?done ?stop
  case assign =>
    intro l x W K hK
    gi_wp2
    exact hK
  case body => exact fun l pre x W _ hlt => absurd hlt (Nat.not_lt_zero _)
  case stop => exact fun D c pre W _ _ h _ => h.elim
  case done =>
    rintro D ys W hD rfl ⟨hC, hB⟩ hK
    have c7 := hC.cell 0 _ rfl
    go_wp2_with (first | (go_at_call 70; refine (reverse_none _).mono ?_; rintro e w6 ⟨rfl, rfl⟩))
    refine ⟨by simp, .inl ⟨_, _, rfl, run_takeDeferred hK, ?_⟩⟩
    exact ⟨_, results_tmp rfl _ _ _, rfl, hB.trans (belowK_b (w := w) (Nat.le_refl _) W D _ _ (by have := B5.size; omega) hK rfl rfl)⟩
end Go.Proofs.YtigchhogclofiaaGreat
