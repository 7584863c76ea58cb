/-
  What Use of layer 3 returns: no statement is proved here.
-/
import Derived.Test.YtecedklfdmbnpaaPowA2
namespace Go.Proofs.Ytecedklfdmbnpaa
open Go.ChangeShapes Go.WideShapes Go.ChangeAt Go.RowKit
set_option linter.unusedVariables false

theorem reckon_any (g : Nat) (p : PS) (x : Int) (w : World) (h : Pw w g p) (ok : p.ok) :
    Calls Try.prog 91 #[.pointer (some ⟨g, 0, none⟩), .int .i64 x] w fun e w' => e = .returned (.tuple #[]) ∧ Step [g] w w' ∧ Pw w' g (p.reckon x) := by
  obtain ⟨l1, l2, u1, u2⟩ := ok
  have m0 := h.c0; have m1 := h.c1; have m2 := h.c2; have m3 := h.c3; have z1 := h.f1; have z2 := h.f2; have z3 := h.f3
  by_cases hx : x = 0
  · subst hx
    cases hl : p.lim
    · have e1 : p.reckon 0 = { p with used := p.used + 1 } := by unfold PS.reckon; rw [if_pos rfl, hl]; rfl
      rw [e1]; rw [hl] at m0; clear e1
      go_enter Try.func91, Try.ntmps91
      go_wp2
      go_end0
      exact ⟨rfl, (Step.refl _ _).setCell (.inl (by simp)) _, h.set3 _⟩
    · have e1 : p.reckon 0 = { { p with used := p.used + 1 } with left := p.left - 1 } := by unfold PS.reckon; rw [if_pos rfl, hl]; rfl
      rw [e1]; rw [hl] at m0; clear e1
      go_enter Try.func91, Try.ntmps91
      go_wp2
      go_end0
      exact ⟨rfl, ((Step.refl _ _).setCell (.inl (by simp)) _).setCell (.inl (by simp)) _, (h.set3 _).set1 _⟩
  · have e1 : p.reckon x = { p with gone := true } := by unfold PS.reckon; rw [if_neg hx]
    rw [e1]; clear e1
    go_enter Try.func91, Try.ntmps91
    go_wp2
    first | go_end0 | refine bodyPost_ret (results_none rfl _ _ _) rfl ?_
    exact ⟨rfl, (Step.refl _ _).setCell (.inl (by simp)) _, h.set2 true⟩

theorem use1_d (a0 a1 : Addr) (g : Nat) (p : PS) (x : Int) (u : FrameMode) (w : World) (h0 : w.cell? a0 = some (.pointer (some ⟨g, 0, none⟩))) (h1 : w.cell? a1 = some (.int .i64 x)) (h : Pw w g p) (ok : p.ok) :
    CallsD Try.prog 90 #[.pointer (some a0), .pointer (some a1)] u w fun e u' w' => u' = u ∧ (e = .returned (.tuple #[]) ∧ Step [g] w w' ∧ Pw w' g (p.reckon x)) := by
  go_enter_d Try.func90, Try.ntmps90
  go_wp2_with (go_at_call 91; refine (reckon_any g p x _ h ok).mono ?_; rintro e w' ⟨rfl, h3, h4⟩)
  go_end0
  exact ⟨rfl, h3, h4⟩

theorem puse_nil (w : World) :
    Calls Try.prog 81 #[.pointer none] w fun e w' => e = .returned (.int .i64 0) ∧ Below w.heap.size w w' := by
  have hmf : ∀ (fn : Fn) (first cap : Array Value) (w : World), (Instr.makeFunc fn first cap).run Try.prog w = .ok (.func fn first cap) w := fun _ _ _ _ => rfl
  go_enter_defers Try.func81, Try.ntmps81
  go_wp2
  refine ⟨.int .i64 0, by simp [results, Try.results81, go_sem], rfl, by go_grown⟩

/-- At the door, with the result laid. -/
theorem use_door (g : Nat) (p : PS) (x : Int) (w : World) (tmps : Array Value) (ht : tmps[2]? = some (.pointer (some ⟨w.heap.size + 1, 0, none⟩))) (h : Pw w g p) (ok : p.ok) :
    bodyPostD Try.prog Try.f81 (fun e w' => e = .returned (.int .i64 x) ∧ Step [g] w w' ∧ Pw w' g (p.reckon x)) Exit.ret
      { tmps := tmps, defers := [{ target := Target.fn (Fn.func 90) #[.pointer (some ⟨w.heap.size, 0, none⟩), .pointer (some ⟨w.heap.size + 1, 0, none⟩)], args := #[] }] }
      ((w.alloc (Obj.cells #[.pointer (some ⟨g, 0, none⟩)] 23)).alloc (Obj.cells #[.int .i64 x] 28)) := by
  have hlt := h.lt
  have hs : Step [g] w ((w.alloc (Obj.cells #[.pointer (some ⟨g, 0, none⟩)] 23)).alloc (Obj.cells #[.int .i64 x] 28)) := (step_alloc _ _ _).alloc _
  have hs' : Step [] w ((w.alloc (Obj.cells #[.pointer (some ⟨g, 0, none⟩)] 23)).alloc (Obj.cells #[.int .i64 x] 28)) := (step_alloc _ _ _).alloc _
  refine leaves_cons (f := 90) (args := #[.pointer (some ⟨w.heap.size, 0, none⟩), .pointer (some ⟨w.heap.size + 1, 0, none⟩)]) (by simp) (by simp [go_sem]) ?_
  refine (use1_d ⟨w.heap.size, 0, none⟩ ⟨w.heap.size + 1, 0, none⟩ g p x .returning _ (by simp [go_sem]) (by simp [go_sem]) (h.step hs' (by simp)) ok).mono ?_
  rintro e u' w'' ⟨rfl, rfl, h3, h4⟩
  have hc : w''.cell? ⟨w.heap.size + 1, 0, none⟩ = some (.int .i64 x) := h3.cell (by simp [go_sem]) (by simp; omega)
  refine ⟨.int .i64 x, ?_, rfl, hs.trans h3, h4⟩
  simp [results, Try.results81, go_sem, ht, hc]

theorem puse_any (g : Nat) (p : PS) (w : World) (h : Pw w g p) (ok : p.ok) :
    Calls Try.prog 81 #[.pointer (some ⟨g, 0, none⟩)] w fun e w' => e = .returned (.int .i64 p.useErr) ∧ Step [g] w w' ∧ Pw w' g p.use := by
  have hmf : ∀ (fn : Fn) (first cap : Array Value) (w : World), (Instr.makeFunc fn first cap).run Try.prog w = .ok (.func fn first cap) w := fun _ _ _ _ => rfl
  have m0 := h.c0; have m1 := h.c1; have m2 := h.c2
  have hlt := h.lt
  unfold PS.use
  have d : p.down = (p.gone || (p.lim && p.left == 0)) := rfl
  cases hg : p.gone
  · rw [hg] at m2 d
    cases hl : p.lim
    · rw [hl] at m0 d
      have e : p.useErr = 0 := by unfold PS.useErr; rw [d]; rfl
      rw [e]; clear e d hg hl
      go_enter_defers Try.func81, Try.ntmps81
      go_wp2
      exact use_door g p 0 w _ rfl h ok
    · rw [hl] at m0 d
      by_cases h0 : p.left = 0
      · have e : p.useErr = 20 := by unfold PS.useErr; rw [d, h0]; rfl
        rw [e]; rw [h0] at m1; clear e d hg hl h0
        go_enter_defers Try.func81, Try.ntmps81
        go_wp2
        exact use_door g p 20 w _ rfl h ok
      · have e : p.useErr = 0 := by unfold PS.useErr; rw [d]; simp [h0]
        rw [e]; clear e d hg hl
        go_enter_defers Try.func81, Try.ntmps81
        go_wp2
        exact use_door g p 0 w _ rfl h ok
  · have e : p.useErr = 20 := by unfold PS.useErr; rw [d, hg]; rfl
    rw [hg] at m2; rw [e]; clear e d hg
    go_enter_defers Try.func81, Try.ntmps81
    go_wp2
    exact use_door g p 20 w _ rfl h ok
end Go.Proofs.Ytecedklfdmbnpaa
