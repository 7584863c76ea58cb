/-
  Texts of my own, joined: no statement is proved here.
-/
import Derived.Test.YtgdnhkdfcjpdiaaGreatDoorRows
import Derived.Recover
import Derived.Test.YtgdnhkdfcjpdiaaGreatDoorJaa
set_option linter.unusedSimpArgs false
set_option linter.unusedVariables false
namespace Go.Proofs.YtgdnhkdfcjpdiaaGreatDoor
open Go.ChangeShapes Go.WideShapes Go.ChangeAt Go.RowKit
structure PS where
  lim : Bool
  left : Int
  gone : Bool
  used : Int
structure Pw (w : World) (g : Nat) (p : PS) : Prop where
  c0 : w.cell? ⟨g, 0, none⟩ = some (.bool p.lim)
  c1 : w.cell? ⟨g, 1, none⟩ = some (.int .i64 p.left)
  c2 : w.cell? ⟨g, 2, none⟩ = some (.bool p.gone)
  c3 : w.cell? ⟨g, 3, none⟩ = some (.int .i64 p.used)
  f0 : w.frozen? ⟨g, 0, none⟩ = false
  f1 : w.frozen? ⟨g, 1, none⟩ = false
  f2 : w.frozen? ⟨g, 2, none⟩ = false
  f3 : w.frozen? ⟨g, 3, none⟩ = false
theorem Pw.lt {w : World} {g : Nat} {p : PS} (h : Pw w g p) : g < w.heap.size := World.block_lt_of_cell? w ⟨g, 0, none⟩ h.c0
theorem Pw.step {B : List Nat} {w w' : World} {g : Nat} {p : PS} (h : Pw w g p) (k : Step B w w') (hg : g ∉ B) : Pw w' g p :=
  ⟨k.cell h.c0 hg, k.cell h.c1 hg, k.cell h.c2 hg, k.cell h.c3 hg, by rw [k.frozen (p := ⟨g, 0, none⟩) h.lt hg]; exact h.f0, by rw [k.frozen (p := ⟨g, 1, none⟩) h.lt hg]; exact h.f1,
   by rw [k.frozen (p := ⟨g, 2, none⟩) h.lt hg]; exact h.f2, by rw [k.frozen (p := ⟨g, 3, none⟩) h.lt hg]; exact h.f3⟩
theorem Pw.made (w : World) (b c : Bool) (m n : Int) : Pw (w.alloc (Obj.cells #[.bool b, .int .i64 m, .bool c, .int .i64 n] 115)) w.heap.size ⟨b, m, c, n⟩ := by
  constructor <;> simp [go_sem]
theorem Pw.set1 {w : World} {g : Nat} {p : PS} (h : Pw w g p) (n : Int) : Pw (w.setCell ⟨g, 1, none⟩ (.int .i64 n)) g { p with left := n } :=
  ⟨by rw [World.cell?_setCell_other _ _ _ _ (by simp)]; exact h.c0, World.cell?_setCell_same _ _ _ h.c1, by rw [World.cell?_setCell_other _ _ _ _ (by simp)]; exact h.c2, by rw [World.cell?_setCell_other _ _ _ _ (by simp)]; exact h.c3,
   by simpa using h.f0, by simpa using h.f1, by simpa using h.f2, by simpa using h.f3⟩
theorem Pw.set2 {w : World} {g : Nat} {p : PS} (h : Pw w g p) (b : Bool) : Pw (w.setCell ⟨g, 2, none⟩ (.bool b)) g { p with gone := b } :=
  ⟨by rw [World.cell?_setCell_other _ _ _ _ (by simp)]; exact h.c0, by rw [World.cell?_setCell_other _ _ _ _ (by simp)]; exact h.c1, World.cell?_setCell_same _ _ _ h.c2, by rw [World.cell?_setCell_other _ _ _ _ (by simp)]; exact h.c3,
   by simpa using h.f0, by simpa using h.f1, by simpa using h.f2, by simpa using h.f3⟩
theorem Pw.set3 {w : World} {g : Nat} {p : PS} (h : Pw w g p) (n : Int) : Pw (w.setCell ⟨g, 3, none⟩ (.int .i64 n)) g { p with used := n } :=
  ⟨by rw [World.cell?_setCell_other _ _ _ _ (by simp)]; exact h.c0, by rw [World.cell?_setCell_other _ _ _ _ (by simp)]; exact h.c1, by rw [World.cell?_setCell_other _ _ _ _ (by simp)]; exact h.c2, World.cell?_setCell_same _ _ _ h.c3,
   by simpa using h.f0, by simpa using h.f1, by simpa using h.f2, by simpa using h.f3⟩
def PS.ok (p : PS) : Prop := 0 ≤ p.left ∧ p.left ≤ 9223372036854775807 ∧ 0 ≤ p.used ∧ p.used ≤ 1000000000000
def PS.fresh : PS := ⟨false, 0, false, 0⟩
def PS.down (p : PS) : Bool := p.gone || (p.lim && p.left == 0)
def PS.useErr (p : PS) : Int := if p.down then 20 else 0
def PS.reckon (p : PS) (e : Int) : PS := if e = 0 then (if p.lim then { p with used := p.used + 1, left := p.left - 1 } else { p with used := p.used + 1 }) else { p with gone := true }
def PS.use (p : PS) : PS := p.reckon p.useErr
theorem pnew_any (w : World) :
    Calls Tryz.prog 18 #[] w fun e w' => e = .returned (.pointer (some ⟨w.heap.size, 0, none⟩)) ∧ Below w.heap.size w w' ∧ Pw w' w.heap.size PS.fresh ∧ w'.heap.size = w.heap.size + 1 := by
  go_enter Tryz.func18, Tryz.ntmps18
  go_wp2
  go_returns
  exact ⟨rfl, by go_grown, Pw.made w _ _ _ _, by simp⟩
theorem reckon_any (g : Nat) (p : PS) (x : Int) (w : World) (h : Pw w g p) (ok : p.ok) :
    Calls Tryz.prog 132 #[.pointer (some ⟨g, 0, none⟩), .int .i64 x] w fun e w' => e = .returned (.tuple #[]) ∧ Step [g] w w' ∧ Pw w' g (p.reckon x) := by
  obtain ⟨l1, l2, u1, u2⟩ := ok
  have m0 := h.c0; have m1 := h.c1; have m2 := h.c2; have m3 := h.c3; have z1 := h.f1; have z2 := h.f2; have z3 := h.f3
  by_cases hx : x = 0
  · subst hx
    cases hl : p.lim
    · have e1 : p.reckon 0 = { p with used := p.used + 1 } := by unfold PS.reckon; rw [if_pos rfl, hl]; rfl
      rw [e1]; rw [hl] at m0; clear e1
      go_enter Tryz.func132, Tryz.ntmps132
      go_wp2
      go_end0
      exact ⟨rfl, (Step.refl _ _).setCell (.inl (by simp)) _, h.set3 _⟩
    · have e1 : p.reckon 0 = { { p with used := p.used + 1 } with left := p.left - 1 } := by unfold PS.reckon; rw [if_pos rfl, hl]; rfl
      rw [e1]; rw [hl] at m0; clear e1
      go_enter Tryz.func132, Tryz.ntmps132
      go_wp2
      go_end0
      exact ⟨rfl, ((Step.refl _ _).setCell (.inl (by simp)) _).setCell (.inl (by simp)) _, (h.set3 _).set1 _⟩
  · have e1 : p.reckon x = { p with gone := true } := by unfold PS.reckon; rw [if_neg hx]
    rw [e1]; clear e1
    go_enter Tryz.func132, Tryz.ntmps132
    go_wp2
    first | go_end0 | refine bodyPost_ret (results_none rfl _ _ _) rfl ?_
    exact ⟨rfl, (Step.refl _ _).setCell (.inl (by simp)) _, h.set2 true⟩
theorem use1_d (a0 a1 : Addr) (g : Nat) (p : PS) (x : Int) (u : FrameMode) (w : World) (h0 : w.cell? a0 = some (.pointer (some ⟨g, 0, none⟩))) (h1 : w.cell? a1 = some (.int .i64 x)) (h : Pw w g p) (ok : p.ok) :
    CallsD Tryz.prog 131 #[.pointer (some a0), .pointer (some a1)] u w fun e u' w' => u' = u ∧ (e = .returned (.tuple #[]) ∧ Step [g] w w' ∧ Pw w' g (p.reckon x)) := by
  go_enter_d Tryz.func131, Tryz.ntmps131
  go_wp2_with (go_at_call 132; refine (reckon_any g p x _ h ok).mono ?_; rintro e w' ⟨rfl, h3, h4⟩)
  go_end0
  exact ⟨rfl, h3, h4⟩
theorem puse_nil (w : World) :
    Calls Tryz.prog 106 #[.pointer none] w fun e w' => e = .returned (.int .i64 0) ∧ Below w.heap.size w w' := by
  have hmf : ∀ (fn : Fn) (first cap : Array Value) (w : World), (Instr.makeFunc fn first cap).run Tryz.prog w = .ok (.func fn first cap) w := fun _ _ _ _ => rfl
  go_enter_defers Tryz.func106, Tryz.ntmps106
  go_wp2
  refine ⟨.int .i64 0, by simp [results, Tryz.results106, go_sem], rfl, by go_grown⟩
theorem use_door (g : Nat) (p : PS) (x : Int) (w : World) (tmps : Array Value) (ht : tmps[2]? = some (.pointer (some ⟨w.heap.size + 1, 0, none⟩))) (h : Pw w g p) (ok : p.ok) :
    bodyPostD Tryz.prog Tryz.f106 (fun e w' => e = .returned (.int .i64 x) ∧ Step [g] w w' ∧ Pw w' g (p.reckon x)) Exit.ret
      { tmps := tmps, defers := [{ target := Target.fn (Fn.func 131) #[.pointer (some ⟨w.heap.size, 0, none⟩), .pointer (some ⟨w.heap.size + 1, 0, none⟩)], args := #[] }] }
      ((w.alloc (Obj.cells #[.pointer (some ⟨g, 0, none⟩)] 45)).alloc (Obj.cells #[.int .i64 x] 28)) := by
  have hlt := h.lt
  have hs : Step [g] w ((w.alloc (Obj.cells #[.pointer (some ⟨g, 0, none⟩)] 45)).alloc (Obj.cells #[.int .i64 x] 28)) := (step_alloc _ _ _).alloc _
  have hs' : Step [] w ((w.alloc (Obj.cells #[.pointer (some ⟨g, 0, none⟩)] 45)).alloc (Obj.cells #[.int .i64 x] 28)) := (step_alloc _ _ _).alloc _
  refine leaves_cons (f := 131) (args := #[.pointer (some ⟨w.heap.size, 0, none⟩), .pointer (some ⟨w.heap.size + 1, 0, none⟩)]) (by simp) (by simp [go_sem]) ?_
  refine (use1_d ⟨w.heap.size, 0, none⟩ ⟨w.heap.size + 1, 0, none⟩ g p x .returning _ (by simp [go_sem]) (by simp [go_sem]) (h.step hs' (by simp)) ok).mono ?_
  rintro e u' w'' ⟨rfl, rfl, h3, h4⟩
  have hc : w''.cell? ⟨w.heap.size + 1, 0, none⟩ = some (.int .i64 x) := h3.cell (by simp [go_sem]) (by simp; omega)
  refine ⟨.int .i64 x, ?_, rfl, hs.trans h3, h4⟩
  simp [results, Tryz.results106, go_sem, ht, hc]
theorem puse_any (g : Nat) (p : PS) (w : World) (h : Pw w g p) (ok : p.ok) :
    Calls Tryz.prog 106 #[.pointer (some ⟨g, 0, none⟩)] w fun e w' => e = .returned (.int .i64 p.useErr) ∧ Step [g] w w' ∧ Pw w' g p.use := by
  have hmf : ∀ (fn : Fn) (first cap : Array Value) (w : World), (Instr.makeFunc fn first cap).run Tryz.prog w = .ok (.func fn first cap) w := fun _ _ _ _ => rfl
  have m0 := h.c0; have m1 := h.c1; have m2 := h.c2
  have hlt := h.lt
  unfold PS.use
  have d : p.down = (p.gone || (p.lim && p.left == 0)) := rfl
  cases hg : p.gone
  · rw [hg] at m2 d
    cases hl : p.lim
    · rw [hl] at m0 d
      have e : p.useErr = 0 := by unfold PS.useErr; rw [d]; rfl
      rw [e]; clear e d hg hl
      go_enter_defers Tryz.func106, Tryz.ntmps106
      go_wp2
      exact use_door g p 0 w _ rfl h ok
    · rw [hl] at m0 d
      by_cases h0 : p.left = 0
      · have e : p.useErr = 20 := by unfold PS.useErr; rw [d, h0]; rfl
        rw [e]; rw [h0] at m1; clear e d hg hl h0
        go_enter_defers Tryz.func106, Tryz.ntmps106
        go_wp2
        exact use_door g p 20 w _ rfl h ok
      · have e : p.useErr = 0 := by unfold PS.useErr; rw [d]; simp [h0]
        rw [e]; clear e d hg hl
        go_enter_defers Tryz.func106, Tryz.ntmps106
        go_wp2
        exact use_door g p 0 w _ rfl h ok
  · have e : p.useErr = 20 := by unfold PS.useErr; rw [d, hg]; rfl
    rw [hg] at m2; rw [e]; clear e d hg
    go_enter_defers Tryz.func106, Tryz.ntmps106
    go_wp2
    exact use_door g p 20 w _ rfl h ok
structure RS where
  left : Int
  used : Int
  gone : Bool
structure Rw (w : World) (g : Nat) (p : RS) : Prop where
  c0 : w.cell? ⟨g, 0, none⟩ = some (.int .i64 p.left)
  c1 : w.cell? ⟨g, 1, none⟩ = some (.int .i64 p.used)
  c2 : w.cell? ⟨g, 2, none⟩ = some (.bool p.gone)
  f0 : w.frozen? ⟨g, 0, none⟩ = false
  f1 : w.frozen? ⟨g, 1, none⟩ = false
  f2 : w.frozen? ⟨g, 2, none⟩ = false
theorem Rw.lt {w : World} {g : Nat} {p : RS} (h : Rw w g p) : g < w.heap.size := World.block_lt_of_cell? w ⟨g, 0, none⟩ h.c0
theorem Rw.made (w : World) (m n : Int) (b : Bool) : Rw (w.alloc (Obj.cells #[.int .i64 m, .int .i64 n, .bool b] 117)) w.heap.size ⟨m, n, b⟩ := by
  constructor <;> simp [go_sem]
theorem Rw.set0 {w : World} {g : Nat} {p : RS} (h : Rw w g p) (n : Int) : Rw (w.setCell ⟨g, 0, none⟩ (.int .i64 n)) g { p with left := n } :=
  ⟨World.cell?_setCell_same _ _ _ h.c0, by rw [World.cell?_setCell_other _ _ _ _ (by simp)]; exact h.c1, by rw [World.cell?_setCell_other _ _ _ _ (by simp)]; exact h.c2,
   by simpa using h.f0, by simpa using h.f1, by simpa using h.f2⟩
theorem Rw.set1 {w : World} {g : Nat} {p : RS} (h : Rw w g p) (n : Int) : Rw (w.setCell ⟨g, 1, none⟩ (.int .i64 n)) g { p with used := n } :=
  ⟨by rw [World.cell?_setCell_other _ _ _ _ (by simp)]; exact h.c0, World.cell?_setCell_same _ _ _ h.c1, by rw [World.cell?_setCell_other _ _ _ _ (by simp)]; exact h.c2,
   by simpa using h.f0, by simpa using h.f1, by simpa using h.f2⟩
theorem Rw.set2 {w : World} {g : Nat} {p : RS} (h : Rw w g p) (b : Bool) : Rw (w.setCell ⟨g, 2, none⟩ (.bool b)) g { p with gone := b } :=
  ⟨by rw [World.cell?_setCell_other _ _ _ _ (by simp)]; exact h.c0, by rw [World.cell?_setCell_other _ _ _ _ (by simp)]; exact h.c1, World.cell?_setCell_same _ _ _ h.c2,
   by simpa using h.f0, by simpa using h.f1, by simpa using h.f2⟩
def RS.fresh : RS := ⟨-1, 0, false⟩
def RS.down (p : RS) : Bool := p.gone || p.left == 0
def RS.useErr (p : RS) : Int := if p.down then 20 else 0
def RS.use (p : RS) : RS := if p.down then { p with gone := true } else if 0 < p.left then { p with left := p.left - 1, used := p.used + 1 } else { p with used := p.used + 1 }
def RS.ok (p : RS) : Prop := -1 ≤ p.left ∧ p.left ≤ 9223372036854775807 ∧ 0 ≤ p.used ∧ p.used ≤ 1000000000000
theorem rnew_anyW (w : World) :
    Calls Tryz.prog 19 #[] w fun e w' => e = .returned (.pointer (some ⟨w.heap.size, 0, none⟩)) ∧ Below w.heap.size w w' ∧ Rw w' w.heap.size RS.fresh ∧ w'.heap.size = w.heap.size + 1 := by
  go_enter Tryz.func19, Tryz.ntmps19
  go_wp2
  go_returns
  exact ⟨rfl, by go_grown, Rw.made w _ _ _, by simp⟩
theorem ruse_any (g : Nat) (p : RS) (w : World) (h : Rw w g p) (ok : p.ok) :
    Calls Tryz.prog 107 #[.pointer (some ⟨g, 0, none⟩)] w fun e w' => e = .returned (.int .i64 p.useErr) ∧ Step [g] w w' ∧ Rw w' g p.use := by
  obtain ⟨l1, l2, u1, u2⟩ := ok
  have m0 := h.c0; have m1 := h.c1; have m2 := h.c2; have z0 := h.f0; have z1 := h.f1; have z2 := h.f2
  have d : p.down = (p.gone || p.left == 0) := rfl
  cases hg : p.gone
  · rw [hg] at m2 d
    by_cases h0 : p.left = 0
    · have d' : p.down = true := by rw [d, h0]; rfl
      have e : p.useErr = 20 := by unfold RS.useErr; rw [d']; rfl
      have e' : p.use = { p with gone := true } := by unfold RS.use; rw [d']; rfl
      rw [e, e']; rw [h0] at m0; clear e e' d d' hg h0
      go_enter Tryz.func107, Tryz.ntmps107
      go_wp2
      go_returns
      exact ⟨rfl, (Step.refl _ _).setCell (.inl (by simp)) _, h.set2 true⟩
    · have d' : p.down = false := by rw [d]; simp [h0]
      have e : p.useErr = 0 := by unfold RS.useErr; rw [d']; rfl
      by_cases hp : 0 < p.left
      · have e' : p.use = { { p with left := p.left - 1 } with used := p.used + 1 } := by unfold RS.use; rw [d']; simp [hp]
        rw [e, e']; clear e e' d d' hg
        go_enter Tryz.func107, Tryz.ntmps107
        go_wp2
        go_returns
        exact ⟨rfl, ((Step.refl _ _).setCell (.inl (by simp)) _).setCell (.inl (by simp)) _, (h.set0 _).set1 _⟩
      · have e' : p.use = { p with used := p.used + 1 } := by unfold RS.use; rw [d']; simp [hp]
        rw [e, e']; clear e e' d d' hg
        go_enter Tryz.func107, Tryz.ntmps107
        go_wp2
        go_returns
        exact ⟨rfl, (Step.refl _ _).setCell (.inl (by simp)) _, h.set1 _⟩
  · rw [hg] at m2 d
    have d' : p.down = true := by rw [d]; rfl
    have e : p.useErr = 20 := by unfold RS.useErr; rw [d']; rfl
    have e' : p.use = { p with gone := true } := by unfold RS.use; rw [d']; rfl
    rw [e, e']; clear e e' d d' hg
    go_enter Tryz.func107, Tryz.ntmps107
    go_wp2
    go_returns
    exact ⟨rfl, (Step.refl _ _).setCell (.inl (by simp)) _, h.set2 true⟩
def ref (p : PS) : RS := ⟨if p.lim then p.left else -1, p.used, p.gone⟩
def okAt (p : PS) (k : Nat) : Prop := 0 ≤ p.left ∧ p.left ≤ 9223372036854775807 ∧ 0 ≤ p.used ∧ p.used ≤ k
theorem ref_down {p : PS} {k : Nat} (h : okAt p k) : (ref p).down = p.down := by
  unfold RS.down PS.down ref
  cases p.lim <;> simp
theorem ref_err {p : PS} {k : Nat} (h : okAt p k) : (ref p).useErr = p.useErr := by unfold RS.useErr PS.useErr; rw [ref_down h]
theorem ref_use {p : PS} {k : Nat} (h : okAt p k) : (ref p).use = ref p.use := by
  unfold RS.use PS.use PS.useErr
  rw [ref_down h]
  unfold okAt at h
  cases hd : p.down
  · have hz : p.lim = true → ¬ p.left = 0 := fun hl e => by unfold PS.down at hd; rw [hl, e] at hd; simp at hd
    cases hl : p.lim
    · simp [ref, PS.reckon, hl]
    · have := hz hl
      have : 0 < p.left := by omega
      simp [ref, PS.reckon, hl, this]
  · simp [ref, PS.reckon]
theorem ok_use {p : PS} {k : Nat} (h : okAt p k) : okAt p.use (k + 1) := by
  unfold PS.use PS.useErr
  cases hd : p.down
  · have hz : p.lim = true → ¬ p.left = 0 := fun hl e => by unfold PS.down at hd; rw [hl, e] at hd; simp at hd
    unfold okAt at *
    cases hl : p.lim
    · simp [PS.reckon, hl]; omega
    · have := hz hl
      simp [PS.reckon, hl]; omega
  · unfold okAt at *; simp [PS.reckon]; omega
theorem fresh_ok : okAt PS.fresh 0 := by unfold okAt; decide
end Go.Proofs.YtgdnhkdfcjpdiaaGreatDoor
