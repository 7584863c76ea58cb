/-
  How words of layer 5 are turned: no statement is proved here.
-/
import Derived.Test.YteaaipkfggnjgaaDoorNvB
import Derived.Laws.EntriesVeiled
namespace Go.Proofs.YteaaipkfggnjgaaDoor
open Go.ChangeShapes Go.WideShapes Go.ChangeAt Go.RowKit
set_option linter.unusedVariables false

/-- A supply's numbers are in their bounds, for so many uses more. -/
def PS.okk (k : Nat) (p : PS) : Prop := 0 ≤ p.left ∧ p.left ≤ 9223372036854775807 ∧ 0 ≤ p.used ∧ p.used + k ≤ 1000000000000
theorem PS.okk.ok {k : Nat} {p : PS} (h : p.okk k) : p.ok := by obtain ⟨a, b, c, d⟩ := h; exact ⟨a, b, c, by omega⟩
theorem PS.okk.mono {k m : Nat} {p : PS} (h : p.okk k) (hm : m ≤ k) : p.okk m := by obtain ⟨a, b, c, d⟩ := h; exact ⟨a, b, c, by omega⟩
theorem PS.okk.use {k : Nat} {p : PS} (h : p.okk (k + 1)) : p.use.okk k := by
  obtain ⟨a, b, c, d⟩ := h
  unfold PS.use PS.reckon PS.useErr
  cases hd : p.down
  · simp only [Bool.false_eq_true, if_false, if_true]
    cases hl : p.lim
    · simp; exact ⟨a, b, by simp; omega, by simp; omega⟩
    · have hne : p.left ≠ 0 := by
        intro e
        unfold PS.down at hd
        rw [hl, e] at hd; simp at hd
      simp; exact ⟨by simp; omega, by simp; omega, by simp; omega, by simp; omega⟩
  · simp; exact ⟨a, b, c, by simp; omega⟩
/-- The order in which the words are written. -/
structure Tab (w : World) : Prop where
  c0 : w.cell? ⟨0, 0, none⟩ = some (.int .i64 1)
  c1 : w.cell? ⟨0, 1, none⟩ = some (.int .i64 0)
  c2 : w.cell? ⟨0, 2, none⟩ = some (.int .i64 2)
theorem Tab.lt {w : World} (h : Tab w) : 0 < w.heap.size := World.block_lt_of_cell? w ⟨0, 0, none⟩ h.c0
theorem Tab.step {B : List Nat} {w w' : World} (h : Tab w) (k : Step B w w') (hB : 0 ∉ B) : Tab w' := ⟨k.cell h.c0 hB, k.cell h.c1 hB, k.cell h.c2 hB⟩
theorem Tab.later {w w' : World} (h : Tab w) (k : Below w.heap.size w w') : Tab w' := h.step (step_below k []) (by simp)

def turnErr (p : PS) : Int := if p.useErr = 0 then (if p.use.useErr = 0 then p.use.use.useErr else p.use.useErr) else p.useErr
def PS.turn (p : PS) : PS := if p.useErr = 0 then (if p.use.useErr = 0 then p.use.use.use else p.use.use) else p.use
def WS.put1 (x : WS) (gr : Nat) : WS := { x with b := gr }
def nx (a : Nat) : Nat := (a + 1) % 4294967296
theorem nx_lt (a : Nat) : nx a < 4294967296 := Nat.mod_lt _ (by omega)
def WS.put0 (x : WS) : WS := { x with a := nx x.a }
def WS.put2 (x : WS) : WS := { x with c := sm x.a x.b }
def WS.turn (x : WS) (gr : Nat) (p : PS) : WS := if p.useErr = 0 then (if p.use.useErr = 0 then (if p.use.use.useErr = 0 then (x.put1 gr).put0.put2 else (x.put1 gr).put0) else x.put1 gr) else x

theorem turn1_any (a : Addr) (gr : Nat) (w : World) (h : w.cell? a = some (.int .u32 gr)) : Calls Tryd.prog 24 #[.pointer (some a)] w fun e w' => e = .returned (.int .u32 gr) ∧ w = w' := by
  go_enter Tryd.func24, Tryd.ntmps24
  go_wp2
  go_returns
  exact ⟨rfl, rfl⟩
theorem turn2_any (a : Addr) (g : Nat) (x : WS) (s : Option Nat) (w : World) (h : w.cell? a = some (.pointer (some ⟨g, 0, none⟩))) (hw : Ww w g x s) :
    Calls Tryd.prog 25 #[.pointer (some a)] w fun e w' => e = .returned (.int .u32 (nx x.a : Nat)) ∧ w = w' := by
  have m0 := hw.c0; have l0 := hw.l0
  have hh : IntKind.u32.wrap ((x.a : Int) + 1) = (nx x.a : Nat) := by rw [IntKind.wrap_u32]; unfold nx; omega
  go_enter Tryd.func25, Tryd.ntmps25
  go_wp2
  go_returns
  exact ⟨rfl, rfl⟩
theorem turn3_any (a : Addr) (g : Nat) (x : WS) (s : Option Nat) (w : World) (h : w.cell? a = some (.pointer (some ⟨g, 0, none⟩))) (hw : Ww w g x s) :
    Calls Tryd.prog 26 #[.pointer (some a)] w fun e w' => e = .returned (.int .u32 (sm x.a x.b : Nat)) ∧ Below w.heap.size w w' := by
  go_enter Tryd.func26, Tryd.ntmps26
  go_wp2_with (first | (go_at_call 22; refine (nsum_any g x s _ hw).mono ?_; rintro e w1 ⟨rfl, b1⟩))
  go_returns
  exact ⟨rfl, b1⟩

/-- What a turn lays for itself: three blocks from n on. -/
structure Fr (v : World) (n g gr : Nat) : Prop where
  a0 : v.cell? ⟨n, 0, none⟩ = some (.pointer (some ⟨g, 0, none⟩))
  b0 : v.cell? ⟨n + 1, 0, none⟩ = some (.int .u32 gr)
  c0 : v.cell? ⟨n + 1 + 1, 0, none⟩ = some (.func (.func 25) #[] #[.pointer (some ⟨n, 0, none⟩)])
  c1 : v.cell? ⟨n + 1 + 1, 1, none⟩ = some (.func (.func 24) #[] #[.pointer (some ⟨n + 1, 0, none⟩)])
  c2 : v.cell? ⟨n + 1 + 1, 2, none⟩ = some (.func (.func 26) #[] #[.pointer (some ⟨n, 0, none⟩)])
theorem Fr.step {B : List Nat} {v v' : World} {n g gr : Nat} (h : Fr v n g gr) (k : Step B v v') (hB : ∀ x ∈ B, x < n) : Fr v' n g gr :=
  ⟨k.cell h.a0 (fun e => by have := hB _ e; simp at this), k.cell h.b0 (fun e => by have := hB _ e; simp at this; omega), k.cell h.c0 (fun e => by have := hB _ e; simp at this; omega),
   k.cell h.c1 (fun e => by have := hB _ e; simp at this; omega), k.cell h.c2 (fun e => by have := hB _ e; simp at this; omega)⟩

theorem Fr.s0 {u : World} {n g gr : Nat} (h : Fr u n g gr) : u.cell? ⟨n, 0, none⟩ = some (.pointer (some ⟨g, 0, none⟩)) ∧ u.cell? ⟨n + 1 + 1, 0, none⟩ = some (.func (.func 25) #[] #[.pointer (some ⟨n, 0, none⟩)]) := ⟨h.a0, h.c0⟩
theorem Fr.s1 {u : World} {n g gr : Nat} (h : Fr u n g gr) : u.cell? ⟨n, 0, none⟩ = some (.pointer (some ⟨g, 0, none⟩)) ∧ u.cell? ⟨n + 1 + 1, 1, none⟩ = some (.func (.func 24) #[] #[.pointer (some ⟨n + 1, 0, none⟩)]) := ⟨h.a0, h.c1⟩
theorem Fr.s2 {u : World} {n g gr : Nat} (h : Fr u n g gr) : u.cell? ⟨n, 0, none⟩ = some (.pointer (some ⟨g, 0, none⟩)) ∧ u.cell? ⟨n + 1 + 1, 2, none⟩ = some (.func (.func 26) #[] #[.pointer (some ⟨n, 0, none⟩)]) := ⟨h.a0, h.c2⟩

theorem turn_a {p : PS} {x : WS} {gr : Nat} (e0 : ¬ p.useErr = 0) : turnErr p = p.useErr ∧ x.turn gr p = x ∧ p.turn = p.use := ⟨if_neg e0, if_neg e0, if_neg e0⟩
theorem turn_b {p : PS} {x : WS} {gr : Nat} (e0 : p.useErr = 0) (e1 : ¬ p.use.useErr = 0) : turnErr p = p.use.useErr ∧ x.turn gr p = x.put1 gr ∧ p.turn = p.use.use :=
  ⟨(if_pos e0).trans (if_neg e1), (if_pos e0).trans (if_neg e1), (if_pos e0).trans (if_neg e1)⟩
theorem turn_c {p : PS} {x : WS} {gr : Nat} (e0 : p.useErr = 0) (e1 : p.use.useErr = 0) (e2 : ¬ p.use.use.useErr = 0) : turnErr p = p.use.use.useErr ∧ x.turn gr p = (x.put1 gr).put0 ∧ p.turn = p.use.use.use :=
  ⟨(if_pos e0).trans (if_pos e1), (if_pos e0).trans ((if_pos e1).trans (if_neg e2)), (if_pos e0).trans (if_pos e1)⟩
theorem turn_d {p : PS} {x : WS} {gr : Nat} (e0 : p.useErr = 0) (e1 : p.use.useErr = 0) (e2 : p.use.use.useErr = 0) : turnErr p = 0 ∧ x.turn gr p = (x.put1 gr).put0.put2 ∧ p.turn = p.use.use.use :=
  ⟨((if_pos e0).trans (if_pos e1)).trans e2, (if_pos e0).trans ((if_pos e1).trans (if_pos e2)), (if_pos e0).trans (if_pos e1)⟩

set_option maxHeartbeats 1000000 in
theorem turnTo_any (g gr : Nat) (x : WS) (s : Option Nat) (p : PS) (w : World) (h : Ww w g x s) (hp : Sp w s p) (ht : Tab w) (ok : p.okk 3) (hgr : gr < 4294967296) (hs : s ≠ some g) (hsl : ∀ y ∈ s.toList, y < w.heap.size) :
    Calls Tryd.prog 20 #[.pointer (some ⟨g, 0, none⟩), .int .u32 gr] w fun e w' => e = .returned (.int .i64 (turnErr p)) ∧ Step (g :: s.toList) w w' ∧ Ww w' g (x.turn gr p) s ∧ Sp w' s p.turn := by
  have hmf : ∀ (fn : Fn) (first cap : Array Value) (w : World), (Instr.makeFunc fn first cap).run Tryd.prog w = .ok (.func fn first cap) w := fun _ _ _ _ => rfl
  have i0 : ∀ w, (Instr.index 51 (.agg #[.int .i64 1, .int .i64 0, .int .i64 2]) (.int .i64 0)).run Tryd.prog w = .ok (.int .i64 1) w := fun _ => by kernel_rfl
  have i1 : ∀ w, (Instr.index 51 (.agg #[.int .i64 1, .int .i64 0, .int .i64 2]) (.int .i64 1)).run Tryd.prog w = .ok (.int .i64 0) w := fun _ => by kernel_rfl
  have i2 : ∀ w, (Instr.index 51 (.agg #[.int .i64 1, .int .i64 0, .int .i64 2]) (.int .i64 2)).run Tryd.prog w = .ok (.int .i64 2) w := fun _ => by kernel_rfl
  have t0 := ht.c0; have t1 := ht.c1; have t2 := ht.c2; have tl := ht.lt; have hlt := h.lt
  have hgs : g ∉ s.toList := by intro e; cases s with
    | none => simp at e
    | some y => simp at e; exact hs (by rw [e])
  go_enter Tryd.func20, Tryd.ntmps20
  go_wp2_with fail
  have hF : Fr (((w.alloc (Obj.cells #[Value.pointer (some ⟨g, 0, none⟩)] 26)).alloc (Obj.cells #[Value.int IntKind.u32 gr] 32)).alloc (Obj.cells #[.func (.func 25) #[] #[.pointer (some ⟨w.heap.size, 0, none⟩)], .func (.func 24) #[] #[.pointer (some ⟨w.heap.size + 1, 0, none⟩)], .func (.func 26) #[] #[.pointer (some ⟨w.heap.size, 0, none⟩)]] 50)) w.heap.size g gr := by
    constructor <;> simp [go_sem]
  have k0 : Step (g :: s.toList) w (((w.alloc (Obj.cells #[Value.pointer (some ⟨g, 0, none⟩)] 26)).alloc (Obj.cells #[Value.int IntKind.u32 gr] 32)).alloc (Obj.cells #[.func (.func 25) #[] #[.pointer (some ⟨w.heap.size, 0, none⟩)], .func (.func 24) #[] #[.pointer (some ⟨w.heap.size + 1, 0, none⟩)], .func (.func 26) #[] #[.pointer (some ⟨w.heap.size, 0, none⟩)]] 50)) := ((step_alloc _ _ _).alloc _).alloc _
  have k0' : Step [] w (((w.alloc (Obj.cells #[Value.pointer (some ⟨g, 0, none⟩)] 26)).alloc (Obj.cells #[Value.int IntKind.u32 gr] 32)).alloc (Obj.cells #[.func (.func 25) #[] #[.pointer (some ⟨w.heap.size, 0, none⟩)], .func (.func 24) #[] #[.pointer (some ⟨w.heap.size + 1, 0, none⟩)], .func (.func 26) #[] #[.pointer (some ⟨w.heap.size, 0, none⟩)]] 50)) := ((step_alloc _ _ _).alloc _).alloc _
  have h' := h.step k0' (by simp)
  have hp' := hp.step k0' (by simp)
  clear k0'
  generalize hv : (((w.alloc (Obj.cells #[Value.pointer (some ⟨g, 0, none⟩)] 26)).alloc (Obj.cells #[Value.int IntKind.u32 gr] 32)).alloc (Obj.cells #[.func (.func 25) #[] #[.pointer (some ⟨w.heap.size, 0, none⟩)], .func (.func 24) #[] #[.pointer (some ⟨w.heap.size + 1, 0, none⟩)], .func (.func 26) #[] #[.pointer (some ⟨w.heap.size, 0, none⟩)]] 50)) = v at *
  clear hv
  generalize hn : w.heap.size = n at *
  have m0 := hF.a0; have m1 := hF.b0; have m2 := hF.c0; have m3 := hF.c1; have m4 := hF.c2; have mm := h'.c3
  refine wp_loop_rounds 4 ?_
  rw [rounds_succ]
  by_cases e0 : p.useErr = 0
  · go_wp2_with (first | (go_at_call 27; refine (suse_any s p _ hp' ok.ok).mono ?_; rintro e w1 ⟨rfl, k1, p1⟩; rw [e0]))
    have h1 := h'.step k1 hgs
    have hF1 := hF.step k1 (fun y hy => by have := hsl y hy; omega)
    have hFd := hF1.step (Step.refl [] w1).drew (by simp)
    have hS := hFd.s1
    have hT := (hFd.step (step_setCell w1.drew ⟨g, 1, none⟩ (.int .u32 gr) [g] (.inl (by simp))) (by simp; omega)).s1
    have b1 := hFd.b0
    have hWd := h1.step (Step.refl [] w1).drew (by simp)
    have z0 := hWd.f1; have zc := hWd.c1
    go_region_held3 (fun u => u.cell? ⟨n, 0, none⟩ = some (.pointer (some ⟨g, 0, none⟩)) ∧ u.cell? ⟨n + 1 + 1, 1, none⟩ = some (.func (.func 24) #[] #[.pointer (some ⟨n + 1, 0, none⟩)]))
      (first | exact hS | exact hT)
      (first
        | (go_at_call 24; refine (turn1_any _ gr _ b1).mono ?_; rintro e w2 ⟨rfl, rfl⟩))
    have hW2 : Ww (w1.setCell ⟨g, 1, none⟩ (.int .u32 gr)).drew g (x.put1 gr) s := hWd.set1 hgr
    have kA : Step (g :: s.toList) w (w1.setCell ⟨g, 1, none⟩ (.int .u32 gr)).drew := ((k0.next k1 (fun y hy => .inl (by simp [hy]))).drew).setCell (.inl (by simp)) _
    have hF2 : Fr (w1.setCell ⟨g, 1, none⟩ (.int .u32 gr)).drew n g gr := hFd.step (step_setCell w1.drew ⟨g, 1, none⟩ (.int .u32 gr) [g] (.inl (by simp))) (by simp; omega)
    have p2 : Sp (w1.setCell ⟨g, 1, none⟩ (.int .u32 gr)).drew s p.use := (p1.step (Step.refl [] w1).drew (by simp)).step (step_setCell w1.drew ⟨g, 1, none⟩ (.int .u32 gr) [g] (.inl (by simp))) (fun y hy e => by simp at e; subst e; exact hs hy)
    clear hS hT hFd b1 hWd z0 zc hF1 h1 p1 k1 hF h' hp' k0 m0 m1 m2 m3 m4 mm
    generalize (w1.setCell ⟨g, 1, none⟩ (.int .u32 gr)).drew = v2 at *
    have m0 := hF2.a0; have m1 := hF2.b0; have m2 := hF2.c0; have m3 := hF2.c1; have m4 := hF2.c2; have mm := hW2.c3
    go_wp2_with fail
    rw [rounds_succ]
    by_cases e1 : p.use.useErr = 0
    · go_wp2_with (first | (go_at_call 27; refine (suse_any s p.use _ p2 ok.use.ok).mono ?_; rintro e w3 ⟨rfl, k3, p3⟩; rw [e1]))
      have h3 := hW2.step k3 hgs
      have hF3 := hF2.step k3 (fun y hy => by have := hsl y hy; omega)
      have hFd := hF3.step (Step.refl [] w3).drew (by simp)
      have hS := hFd.s0
      have hT := (hFd.step (step_setCell w3.drew ⟨g, 0, none⟩ (.int .u32 (nx (x.put1 gr).a : Nat)) [g] (.inl (by simp))) (by simp; omega)).s0
      have b1 := hFd.a0
      have hWd := h3.step (Step.refl [] w3).drew (by simp)
      have z0 := hWd.f0; have zc := hWd.c0
      go_region_held3 (fun u => u.cell? ⟨n, 0, none⟩ = some (.pointer (some ⟨g, 0, none⟩)) ∧ u.cell? ⟨n + 1 + 1, 0, none⟩ = some (.func (.func 25) #[] #[.pointer (some ⟨n, 0, none⟩)]))
        (first | exact hS | exact hT)
        (first
          | (go_at_call 25; refine (turn2_any _ g (x.put1 gr) s _ b1 hWd).mono ?_; rintro e w4 ⟨rfl, rfl⟩))
      have hW4 : Ww (w3.setCell ⟨g, 0, none⟩ (.int .u32 (nx (x.put1 gr).a : Nat))).drew g (x.put1 gr).put0 s := hWd.set0 (n := nx (x.put1 gr).a) (nx_lt _)
      have kB : Step (g :: s.toList) w (w3.setCell ⟨g, 0, none⟩ (.int .u32 (nx (x.put1 gr).a : Nat))).drew := ((kA.next k3 (fun y hy => .inl (by simp [hy]))).drew).setCell (.inl (by simp)) _
      have hF4 : Fr (w3.setCell ⟨g, 0, none⟩ (.int .u32 (nx (x.put1 gr).a : Nat))).drew n g gr := hFd.step (step_setCell w3.drew ⟨g, 0, none⟩ (.int .u32 (nx (x.put1 gr).a : Nat)) [g] (.inl (by simp))) (by simp; omega)
      have p4 : Sp (w3.setCell ⟨g, 0, none⟩ (.int .u32 (nx (x.put1 gr).a : Nat))).drew s p.use.use := (p3.step (Step.refl [] w3).drew (by simp)).step (step_setCell w3.drew ⟨g, 0, none⟩ (.int .u32 (nx (x.put1 gr).a : Nat)) [g] (.inl (by simp))) (fun y hy e => by simp at e; subst e; exact hs hy)
      clear hS hT hFd b1 hWd z0 zc hF3 h3 p3 k3 hF2 hW2 p2 kA m0 m1 m2 m3 m4 mm
      generalize (w3.setCell ⟨g, 0, none⟩ (.int .u32 (nx (x.put1 gr).a : Nat))).drew = v4 at *
      have m0 := hF4.a0; have m1 := hF4.b0; have m2 := hF4.c0; have m3 := hF4.c1; have m4 := hF4.c2; have mm := hW4.c3
      go_wp2_with fail
      rw [rounds_succ]
      by_cases e2 : p.use.use.useErr = 0
      · go_wp2_with (first | (go_at_call 27; refine (suse_any s p.use.use _ p4 ok.use.use.ok).mono ?_; rintro e w5 ⟨rfl, k5, p5⟩; rw [e2]))
        have h5 := Ww.step hW4 k5 hgs
        have hF5 := hF4.step k5 (fun y hy => by have := hsl y hy; omega)
        have hFd := hF5.step (Step.refl [] w5).drew (by simp)
        have hS := hFd.s2
        have b1 := hFd.a0
        have hWd := h5.step (Step.refl [] w5).drew (by simp)
        go_region_held3 (fun u => u.cell? ⟨n, 0, none⟩ = some (.pointer (some ⟨g, 0, none⟩)) ∧ u.cell? ⟨n + 1 + 1, 2, none⟩ = some (.func (.func 26) #[] #[.pointer (some ⟨n, 0, none⟩)]))
          (first | exact hS | exact hS' | exact hT)
          (first
            | (go_at_call 26; refine (turn3_any _ g _ s _ b1 hWd).mono ?_; rintro e w6 ⟨rfl, b6⟩; have hF6 := hFd.step (step_below b6 []) (by simp); have hS' := hF6.s2; have hW6 := hWd.later b6; have z0 := hW6.f2; have zc := hW6.c2; have hT := (hF6.step (step_setCell w6 ⟨g, 2, none⟩ (.int .u32 (sm ((x.put1 gr).put0).a ((x.put1 gr).put0).b : Nat)) [g] (.inl (by simp))) (by simp; omega)).s2))
        have hW7 := hW6.set2 (n := sm ((x.put1 gr).put0).a ((x.put1 gr).put0).b) (sm_lt _ _)
        have kC : Step (g :: s.toList) w (w6.setCell ⟨g, 2, none⟩ (.int .u32 (sm ((x.put1 gr).put0).a ((x.put1 gr).put0).b : Nat))) := (((kB.next k5 (fun y hy => .inl (by simp [hy]))).drew).trans (step_below b6 _)).setCell (.inl (by simp)) _
        have p7 : Sp (w6.setCell ⟨g, 2, none⟩ (.int .u32 (sm ((x.put1 gr).put0).a ((x.put1 gr).put0).b : Nat))) s p.use.use.use := ((p5.step (Step.refl [] w5).drew (by simp)).step (step_below b6 []) (by simp)).step (step_setCell w6 ⟨g, 2, none⟩ _ [g] (.inl (by simp))) (fun y hy e => by simp at e; subst e; exact hs hy)
        go_wp2_with fail
        rw [rounds_succ]
        go_wp2_with fail
        go_returns
        obtain ⟨r1, r2, r3⟩ := turn_d (x := x) (gr := gr) e0 e1 e2
        rw [r1, r2, r3]
        exact ⟨rfl, kC, hW7, p7⟩
      · go_wp2_with (first | (go_at_call 27; refine (suse_any s p.use.use _ p4 ok.use.use.ok).mono ?_; rintro e w5 ⟨rfl, k5, p5⟩))
        go_returns
        obtain ⟨r1, r2, r3⟩ := turn_c (x := x) (gr := gr) e0 e1 e2
        rw [r1, r2, r3]
        exact ⟨rfl, kB.next k5 (fun y hy => .inl (by simp [hy])), Ww.step hW4 k5 hgs, p5⟩
    · go_wp2_with (first | (go_at_call 27; refine (suse_any s p.use _ p2 ok.use.ok).mono ?_; rintro e w3 ⟨rfl, k3, p3⟩))
      go_returns
      obtain ⟨r1, r2, r3⟩ := turn_b (x := x) (gr := gr) e0 e1
      rw [r1, r2, r3]
      exact ⟨rfl, kA.next k3 (fun y hy => .inl (by simp [hy])), Ww.step hW2 k3 hgs, p3⟩
  · go_wp2_with (first | (go_at_call 27; refine (suse_any s p _ hp' ok.ok).mono ?_; rintro e w1 ⟨rfl, k1, p1⟩))
    go_returns
    obtain ⟨r1, r2, r3⟩ := turn_a (x := x) (gr := gr) e0
    rw [r1, r2, r3]
    exact ⟨rfl, k0.next k1 (fun y hy => .inl (by simp [hy])), h'.step k1 hgs, p1⟩
end Go.Proofs.YteaaipkfggnjgaaDoor
