/-
  Texts of my own, joined: no statement is proved here.
-/
import Derived.Laws.EntriesVeiled
import Derived.Test.YtgdnhkdfcjpdiaaGreatDoorJag
import Derived.Test.YtgdnhkdfcjpdiaaGreatDoorJah
import Derived.Test.YtgdnhkdfcjpdiaaGreatDoorJal
set_option linter.unusedSimpArgs false
set_option linter.unusedVariables false
namespace Go.Proofs.YtgdnhkdfcjpdiaaGreatDoor
open Go.ChangeShapes Go.WideShapes Go.ChangeAt Go.RowKit
def Sp (w : World) (s : Option Nat) (p : PS) : Prop := match s with
  | none => p.lim = false ∧ p.gone = false
  | some g => Pw w g p
def sptr (s : Option Nat) : Value := .pointer (s.map fun g => ⟨g, 0, none⟩)
theorem Sp.step {B : List Nat} {w w' : World} {s : Option Nat} {p : PS} (h : Sp w s p) (k : Step B w w') (hg : ∀ g, s = some g → g ∉ B) : Sp w' s p := by
  cases s with
  | none => exact h
  | some g => exact Pw.step h k (hg g rfl)
theorem suse_any (s : Option Nat) (p : PS) (w : World) (h : Sp w s p) (ok : p.ok) :
    Calls Tryz.prog 106 #[sptr s] w fun e w' => e = .returned (.int .i64 p.useErr) ∧ Step s.toList w w' ∧ Sp w' s p.use := by
  cases s with
  | none =>
    obtain ⟨h1, h2⟩ := h
    have e : p.useErr = 0 := by unfold PS.useErr PS.down; rw [h1, h2]; rfl
    refine (puse_nil w).mono ?_
    rintro e' w' ⟨rfl, b⟩
    rw [e]
    refine ⟨rfl, step_below b _, ?_⟩
    unfold PS.use PS.reckon; rw [e]; simp [h1]; exact ⟨rfl, h2⟩
  | some g =>
    refine (puse_any g p w h ok).mono ?_
    rintro e' w' ⟨rfl, b, h'⟩
    exact ⟨rfl, b, h'⟩
def by4 (x : Nat) : List Int := [(x : Int) % 256, (x : Int) / 256 % 256, (x : Int) / 65536 % 256, (x : Int) / 16777216]
theorem by4_byte {x : Nat} (h : x < 4294967296) : ∀ z ∈ by4 x, 0 ≤ z ∧ z ≤ 255 := four_range (by omega) (by omega) (by omega) (by omega)
def sm (a b : Nat) : Nat := sumOf (by4 a ++ by4 b)
theorem sm_lt (a b : Nat) : sm a b < 4294967296 := by have := sum_lt (by4 a ++ by4 b); unfold sm; omega
structure WS where
  a : Nat
  b : Nat
  c : Nat
structure Ww (w : World) (g : Nat) (x : WS) (s : Option Nat) : Prop where
  c0 : w.cell? ⟨g, 0, none⟩ = some (.int .u32 x.a)
  c1 : w.cell? ⟨g, 1, none⟩ = some (.int .u32 x.b)
  c2 : w.cell? ⟨g, 2, none⟩ = some (.int .u32 x.c)
  c3 : w.cell? ⟨g, 3, none⟩ = some (sptr s)
  f0 : w.frozen? ⟨g, 0, none⟩ = false
  f1 : w.frozen? ⟨g, 1, none⟩ = false
  f2 : w.frozen? ⟨g, 2, none⟩ = false
  l0 : x.a < 4294967296
  l1 : x.b < 4294967296
  l2 : x.c < 4294967296
theorem Ww.lt {w : World} {g : Nat} {x : WS} {s : Option Nat} (h : Ww w g x s) : g < w.heap.size := World.block_lt_of_cell? w ⟨g, 0, none⟩ h.c0
theorem Ww.step {B : List Nat} {w w' : World} {g : Nat} {x : WS} {s : Option Nat} (h : Ww w g x s) (k : Step B w w') (hg : g ∉ B) : Ww w' g x s :=
  ⟨k.cell h.c0 hg, k.cell h.c1 hg, k.cell h.c2 hg, k.cell h.c3 hg, by rw [k.frozen (p := ⟨g, 0, none⟩) h.lt hg]; exact h.f0, by rw [k.frozen (p := ⟨g, 1, none⟩) h.lt hg]; exact h.f1,
   by rw [k.frozen (p := ⟨g, 2, none⟩) h.lt hg]; exact h.f2, h.l0, h.l1, h.l2⟩
theorem Ww.later {w w' : World} {g : Nat} {x : WS} {s : Option Nat} (h : Ww w g x s) (k : Below w.heap.size w w') : Ww w' g x s := h.step (step_below k []) (by simp)
theorem Ww.set0 {w : World} {g : Nat} {x : WS} {s : Option Nat} (h : Ww w g x s) {n : Nat} (hn : n < 4294967296) : Ww (w.setCell ⟨g, 0, none⟩ (.int .u32 n)) g { x with a := n } s :=
  ⟨World.cell?_setCell_same _ _ _ h.c0, by rw [World.cell?_setCell_other _ _ _ _ (by simp)]; exact h.c1, by rw [World.cell?_setCell_other _ _ _ _ (by simp)]; exact h.c2, by rw [World.cell?_setCell_other _ _ _ _ (by simp)]; exact h.c3,
   by simpa using h.f0, by simpa using h.f1, by simpa using h.f2, hn, h.l1, h.l2⟩
theorem Ww.set1 {w : World} {g : Nat} {x : WS} {s : Option Nat} (h : Ww w g x s) {n : Nat} (hn : n < 4294967296) : Ww (w.setCell ⟨g, 1, none⟩ (.int .u32 n)) g { x with b := n } s :=
  ⟨by rw [World.cell?_setCell_other _ _ _ _ (by simp)]; exact h.c0, World.cell?_setCell_same _ _ _ h.c1, by rw [World.cell?_setCell_other _ _ _ _ (by simp)]; exact h.c2, by rw [World.cell?_setCell_other _ _ _ _ (by simp)]; exact h.c3,
   by simpa using h.f0, by simpa using h.f1, by simpa using h.f2, h.l0, hn, h.l2⟩
theorem Ww.set2 {w : World} {g : Nat} {x : WS} {s : Option Nat} (h : Ww w g x s) {n : Nat} (hn : n < 4294967296) : Ww (w.setCell ⟨g, 2, none⟩ (.int .u32 n)) g { x with c := n } s :=
  ⟨by rw [World.cell?_setCell_other _ _ _ _ (by simp)]; exact h.c0, by rw [World.cell?_setCell_other _ _ _ _ (by simp)]; exact h.c1, World.cell?_setCell_same _ _ _ h.c2, by rw [World.cell?_setCell_other _ _ _ _ (by simp)]; exact h.c3,
   by simpa using h.f0, by simpa using h.f1, by simpa using h.f2, h.l0, h.l1, hn⟩
theorem nnew_any (s : Option Nat) (w : World) :
    Calls Tryz.prog 24 #[sptr s] w fun e w' => e = .returned (.pointer (some ⟨w.heap.size, 0, none⟩)) ∧ Below w.heap.size w w' ∧ Ww w' w.heap.size ⟨0, 0, 0⟩ s ∧ w'.heap.size = w.heap.size + 1 := by
  cases s
  all_goals unfold sptr
  all_goals simp only [Option.map_none, Option.map_some]
  all_goals go_enter Tryz.func24, Tryz.ntmps24
  all_goals go_wp2
  all_goals go_returns
  all_goals refine ⟨rfl, by go_grown, ?_, by simp⟩
  all_goals (constructor <;> simp [go_sem, sptr])
theorem bs4 {W : World} {b x : Nat} (hx : x < 4294967296) (h0 : W.cell? ⟨b, 0, none⟩ = some (.int .u8 ((x : Int) % 256))) (h1 : W.cell? ⟨b, 1, none⟩ = some (.int .u8 ((x : Int) / 256 % 256)))
    (h2 : W.cell? ⟨b, 2, none⟩ = some (.int .u8 ((x : Int) / 65536 % 256))) (h3 : W.cell? ⟨b, 3, none⟩ = some (.int .u8 ((x : Int) / 16777216))) : Bs W (some ⟨b, 0, none⟩) 4 4 (by4 x) := by
  refine ⟨rfl, Nat.le_refl _, by decide, (fun h => by cases h), by4_byte hx, fun _ => ⟨b, 0, rfl, fun i hi => ?_⟩⟩
  have : i = 0 ∨ i = 1 ∨ i = 2 ∨ i = 3 := by omega
  rcases this with rfl | rfl | rfl | rfl <;> assumption
theorem bss2 {W : World} {b b' x y G : Nat} (e : TypeId) (hG : W.heap.size = G) (h : Bs W (some ⟨b, 0, none⟩) 4 4 (by4 x)) (h' : Bs W (some ⟨b', 0, none⟩) 4 4 (by4 y)) :
    Bss (W.alloc (.cells #[.slice (some ⟨b, 0, none⟩) 4 4, .slice (some ⟨b', 0, none⟩) 4 4] e)) (some ⟨G, 0, none⟩) 2 2 [by4 x, by4 y] := by
  subst hG
  refine bss_alloc W e [.slice (some ⟨b, 0, none⟩) 4 4, .slice (some ⟨b', 0, none⟩) 4 4] [by4 x, by4 y] rfl (by unfold maxLen; simp) fun i hi => ?_
  have : i = 0 ∨ i = 1 := by simp at hi; omega
  rcases this with rfl | rfl
  · exact ⟨_, _, _, rfl, h⟩
  · exact ⟨_, _, _, rfl, h'⟩
theorem flat_len2 (x y : Nat) : [by4 x, by4 y].flatten.length ≤ 1000000000000 := by simp [by4]
theorem put32_ex (x : Int) (w : World) (h0 : 0 ≤ x) (h1 : x ≤ 4294967295) :
    Calls Tryz.prog 100 #[.int .u32 x] w fun e w' => e = .returned (.agg #[.int .u8 (x % 256), .int .u8 (x / 256 % 256), .int .u8 (x / 65536 % 256), .int .u8 (x / 16777216)]) ∧
      w' = (w.alloc (.cells #[.int .u8 (x % 256), .int .u8 (x / 256 % 256), .int .u8 (x / 65536 % 256), .int .u8 (x / 16777216)] 206)).alloc (.cells #[.int .u8 (x % 256), .int .u8 (x / 256 % 256), .int .u8 (x / 65536 % 256), .int .u8 (x / 16777216)] 206) := by
  go_enter Tryz.func100, Tryz.ntmps100
  go_wp2
  go_rounds 5
  go_returns
  exact ⟨rfl, rfl⟩
set_option maxHeartbeats 8000000 in
theorem nsum_any (g : Nat) (x : WS) (s : Option Nat) (w : World) (h : Ww w g x s) :
    Calls Tryz.prog 105 #[.pointer (some ⟨g, 0, none⟩)] w fun e w' => e = .returned (.int .u32 (sm x.a x.b : Nat)) ∧ Below w.heap.size w w' := by
  have m0 := h.c0; have m1 := h.c1; have l0 := h.l0; have l1 := h.l1; have hlt := h.lt
  generalize hsm : sm x.a x.b = S
  have tok : True := trivial
  go_enter Tryz.func105, Tryz.ntmps105
  have hK : ∀ w', Below w.heap.size w w' → (Below w.heap.size w w' ∧ w'.cell? ⟨g, 0, none⟩ = some (.int .u32 x.a) ∧ w'.cell? ⟨g, 1, none⟩ = some (.int .u32 x.b)) := fun w' hb => ⟨hb, (h.later hb).c0, (h.later hb).c1⟩
  have hD := hK _ (Below.refl w.heap.size w).drew
  go_wp2_with fail
  go_region_held3 (fun w' => Below w.heap.size w w' ∧ w'.cell? ⟨g, 0, none⟩ = some (.int .u32 x.a) ∧ w'.cell? ⟨g, 1, none⟩ = some (.int .u32 x.b))
    (first | assumption | exact hK _ (by go_grown))
    (first
      | (have _t := tok; go_at_call 100; refine (put32_ex x.a _ (by omega) (by omega)).mono ?_; rintro e w1 ⟨rfl, rfl⟩; clear _t tok)
      | (go_at_call 100; refine (put32_ex x.b _ (by omega) (by omega)).mono ?_; rintro e w2 ⟨rfl, rfl⟩))
  all_goals
    clear hK hD m0 m1
    go_wp2_with fail
    go_region_held3 (fun _ => True) (trivial)
      (first | (go_at_call 127; refine (of_anyK _ 2 2 [by4 x.a, by4 x.b] _ (Bss.later (bss2 _ (by simp [go_sem]) (bs4 l0 (by simp [go_sem]) (by simp [go_sem]) (by simp [go_sem]) (by simp [go_sem])) (bs4 l1 (by simp [go_sem]) (by simp [go_sem]) (by simp [go_sem]) (by simp [go_sem]))) (Below.drew (Below.drew (Below.refl _ _)))) (flat_len2 _ _)).mono ?_; rintro e w3 ⟨rfl, b3⟩))
    go_wp2_with fail
    go_returns
    exact ⟨by subst hsm; rfl, bnext (by go_grown) b3 (Nat.le_refl _)⟩
def WS.right (x : WS) : Bool := x.c == sm x.a x.b
def WS.says (x : WS) : Nat := if x.right then x.b % 256 else 255
theorem says_lt (x : WS) : x.says < 256 := by unfold WS.says; split <;> omega
theorem and255 {b : Nat} (h : b < 4294967296) : bits .and .u32 (b : Int) 255 = ((b % 256 : Nat) : Int) := by
  rw [u32_and (b : Int) 255 (by omega) (by omega) (by omega) (by omega)]
  have := Nat.and_two_pow_sub_one_eq_mod b 8
  have e : ((b : Int).toNat &&& (255 : Int).toNat) = b % 256 := this
  rw [e]
theorem all_anyN (w : World) : Calls Tryz.prog 75 #[] w fun e w' => e = .returned (.int .u32 255) ∧ w = w' := by
  go_enter Tryz.func75, Tryz.ntmps75
  go_wp2
  go_returns
  exact ⟨rfl, rfl⟩
theorem isGroup_any (n : Int) (w : World) : Calls Tryz.prog 96 #[.int .i64 n] w fun e w' => e = .returned (.bool (decide (0 ≤ n ∧ n < 8))) ∧ w = w' := by
  by_cases h : 0 ≤ n
  · by_cases h' : n < 8
    all_goals
      go_enter Tryz.func96, Tryz.ntmps96
      go_wp2
      go_returns
      refine ⟨ret_bool ?_, rfl⟩
      simp; omega
  · go_enter Tryz.func96, Tryz.ntmps96
    go_wp2
    go_returns
    refine ⟨ret_bool ?_, rfl⟩
    simp; omega
theorem bit_any (n : Nat) (h : n < 8) (w : World) : Calls Tryz.prog 99 #[.int .i64 n] w fun e w' => e = .returned (.int .u32 ((2 ^ n : Nat) : Int)) ∧ w = w' := by
  have : n = 0 ∨ n = 1 ∨ n = 2 ∨ n = 3 ∨ n = 4 ∨ n = 5 ∨ n = 6 ∨ n = 7 := by omega
  rcases this with rfl | rfl | rfl | rfl | rfl | rfl | rfl | rfl
  all_goals
    go_enter Tryz.func99, Tryz.ntmps99
    go_wp2
    go_returns
    exact ⟨rfl, rfl⟩
theorem nsays_any (g : Nat) (x : WS) (s : Option Nat) (w : World) (h : Ww w g x s) :
    Calls Tryz.prog 98 #[.pointer (some ⟨g, 0, none⟩)] w fun e w' => e = .returned (.tuple #[.int .u32 (x.says : Nat), .bool x.right]) ∧ Below w.heap.size w w' := by
  have m2 := h.c2; have l0 := h.l0; have l1 := h.l1; have l2 := h.l2; have hlt := h.lt
  have hK : ∀ w', Below w.heap.size w w' → (Below w.heap.size w w' ∧ w'.cell? ⟨g, 2, none⟩ = some (.int .u32 x.c)) := fun w' hb => ⟨hb, (h.later hb).c2⟩
  have hD := hK _ (Below.refl w.heap.size w).drew
  have q := and255 l1
  have hsl := sm_lt x.a x.b
  by_cases e : x.c = sm x.a x.b
  · have e' : (x.c : Int) = (sm x.a x.b : Int) := by omega
    have er : x.right = true := by unfold WS.right; simp [e]
    have es : x.says = x.b % 256 := by unfold WS.says; rw [er]; rfl
    rw [er, es]; clear er es
    go_enter Tryz.func98, Tryz.ntmps98
    go_wp2_with fail
    go_region_held3 (fun w' => Below w.heap.size w w' ∧ w'.cell? ⟨g, 2, none⟩ = some (.int .u32 x.c))
      (first | assumption | exact hK _ k1)
      (first
        | (go_at_call 105; refine (nsum_any g x s _ (h.later (And.left (by assumption)))).mono ?_; rintro e w1 ⟨rfl, b1⟩; have k1 : Below w.heap.size w w1 := bnext (And.left (by assumption)) b1 (Nat.le_refl _)))
    clear hK hD b1
    have h1 := h.later k1
    have hK : ∀ w', Below w1.heap.size w1 w' → (Below w1.heap.size w1 w' ∧ w'.cell? ⟨g, 1, none⟩ = some (.int .u32 x.b)) := fun w' hb => ⟨hb, (h1.later hb).c1⟩
    have hD := hK _ (Below.refl w1.heap.size w1).drew
    go_wp2_with fail
    go_region_held3 (fun w' => Below w1.heap.size w1 w' ∧ w'.cell? ⟨g, 1, none⟩ = some (.int .u32 x.b))
      (first | assumption)
      (first
        | (go_at_call 75; refine (all_anyN _).mono ?_; rintro e w2 ⟨rfl, rfl⟩))
    go_wp2_with fail
    go_returns
    exact ⟨rfl, k1.drew⟩
  · have e' : ¬ (x.c : Int) = (sm x.a x.b : Int) := by omega
    have er : x.right = false := by unfold WS.right; simp [e]
    have es : x.says = 255 := by unfold WS.says; rw [er]; rfl
    rw [er, es]; clear er es
    go_enter Tryz.func98, Tryz.ntmps98
    go_wp2_with fail
    go_region_held3 (fun w' => Below w.heap.size w w' ∧ w'.cell? ⟨g, 2, none⟩ = some (.int .u32 x.c))
      (first | assumption | exact hK _ k1)
      (first
        | (go_at_call 105; refine (nsum_any g x s _ (h.later (And.left (by assumption)))).mono ?_; rintro e w1 ⟨rfl, b1⟩; have k1 : Below w.heap.size w w1 := bnext (And.left (by assumption)) b1 (Nat.le_refl _)))
    clear hK hD b1
    go_wp2_with (first
        | (go_at_call 75; refine (all_anyN _).mono ?_; rintro e w2 ⟨rfl, rfl⟩))
    go_returns
    exact ⟨rfl, k1⟩
set_option maxRecDepth 100000
def PS.okk (k : Nat) (p : PS) : Prop := 0 ≤ p.left ∧ p.left ≤ 9223372036854775807 ∧ 0 ≤ p.used ∧ p.used + k ≤ 1000000000000
theorem PS.okk.ok {k : Nat} {p : PS} (h : p.okk k) : p.ok := by obtain ⟨a, b, c, d⟩ := h; exact ⟨a, b, c, by omega⟩
theorem PS.okk.use {k : Nat} {p : PS} (h : p.okk (k + 1)) : p.use.okk k := by
  obtain ⟨a, b, c, d⟩ := h
  unfold PS.use PS.reckon PS.useErr
  cases hd : p.down
  · simp only [Bool.false_eq_true, if_false, if_true]
    cases hl : p.lim
    · simp; exact ⟨a, b, by simp; omega, by simp; omega⟩
    · have hne : p.left ≠ 0 := by
        intro e
        unfold PS.down at hd
        rw [hl, e] at hd; simp at hd
      simp; exact ⟨by simp; omega, by simp; omega, by simp; omega, by simp; omega⟩
  · simp; exact ⟨a, b, c, by simp; omega⟩
structure Tab (w : World) : Prop where
  c0 : w.cell? ⟨1, 0, none⟩ = some (.int .i64 1)
  c1 : w.cell? ⟨1, 1, none⟩ = some (.int .i64 0)
  c2 : w.cell? ⟨1, 2, none⟩ = some (.int .i64 2)
theorem Tab.lt {w : World} (h : Tab w) : 1 < w.heap.size := World.block_lt_of_cell? w ⟨1, 0, none⟩ h.c0
theorem Tab.step {B : List Nat} {w w' : World} (h : Tab w) (k : Step B w w') (hB : 1 ∉ B) : Tab w' := ⟨k.cell h.c0 hB, k.cell h.c1 hB, k.cell h.c2 hB⟩
theorem Tab.later {w w' : World} (h : Tab w) (k : Below w.heap.size w w') : Tab w' := h.step (step_below k []) (by simp)
def turnErr (p : PS) : Int := if p.useErr = 0 then (if p.use.useErr = 0 then p.use.use.useErr else p.use.useErr) else p.useErr
def PS.turn (p : PS) : PS := if p.useErr = 0 then (if p.use.useErr = 0 then p.use.use.use else p.use.use) else p.use
def WS.put1 (x : WS) (gr : Nat) : WS := { x with b := gr }
def nx (a : Nat) : Nat := (a + 1) % 4294967296
theorem nx_lt (a : Nat) : nx a < 4294967296 := Nat.mod_lt _ (by omega)
def WS.put0 (x : WS) : WS := { x with a := nx x.a }
def WS.put2 (x : WS) : WS := { x with c := sm x.a x.b }
def WS.turn (x : WS) (gr : Nat) (p : PS) : WS := if p.useErr = 0 then (if p.use.useErr = 0 then (if p.use.use.useErr = 0 then (x.put1 gr).put0.put2 else (x.put1 gr).put0) else x.put1 gr) else x
theorem turn1_any (a : Addr) (gr : Nat) (w : World) (h : w.cell? a = some (.int .u32 gr)) : Calls Tryz.prog 102 #[.pointer (some a)] w fun e w' => e = .returned (.int .u32 gr) ∧ w = w' := by
  go_enter Tryz.func102, Tryz.ntmps102
  go_wp2
  go_returns
  exact ⟨rfl, rfl⟩
theorem turn2_any (a : Addr) (g : Nat) (x : WS) (s : Option Nat) (w : World) (h : w.cell? a = some (.pointer (some ⟨g, 0, none⟩))) (hw : Ww w g x s) :
    Calls Tryz.prog 103 #[.pointer (some a)] w fun e w' => e = .returned (.int .u32 (nx x.a : Nat)) ∧ w = w' := by
  have m0 := hw.c0; have l0 := hw.l0
  have hh : IntKind.u32.wrap ((x.a : Int) + 1) = (nx x.a : Nat) := by rw [IntKind.wrap_u32]; unfold nx; omega
  go_enter Tryz.func103, Tryz.ntmps103
  go_wp2
  go_returns
  exact ⟨rfl, rfl⟩
theorem turn3_any (a : Addr) (g : Nat) (x : WS) (s : Option Nat) (w : World) (h : w.cell? a = some (.pointer (some ⟨g, 0, none⟩))) (hw : Ww w g x s) :
    Calls Tryz.prog 104 #[.pointer (some a)] w fun e w' => e = .returned (.int .u32 (sm x.a x.b : Nat)) ∧ Below w.heap.size w w' := by
  go_enter Tryz.func104, Tryz.ntmps104
  go_wp2_with (first | (go_at_call 105; refine (nsum_any g x s _ hw).mono ?_; rintro e w1 ⟨rfl, b1⟩))
  go_returns
  exact ⟨rfl, b1⟩
structure Fr (v : World) (n g gr : Nat) : Prop where
  a0 : v.cell? ⟨n, 0, none⟩ = some (.pointer (some ⟨g, 0, none⟩))
  b0 : v.cell? ⟨n + 1, 0, none⟩ = some (.int .u32 gr)
  c0 : v.cell? ⟨n + 1 + 1, 0, none⟩ = some (.func (.func 103) #[] #[.pointer (some ⟨n, 0, none⟩)])
  c1 : v.cell? ⟨n + 1 + 1, 1, none⟩ = some (.func (.func 102) #[] #[.pointer (some ⟨n + 1, 0, none⟩)])
  c2 : v.cell? ⟨n + 1 + 1, 2, none⟩ = some (.func (.func 104) #[] #[.pointer (some ⟨n, 0, none⟩)])
theorem Fr.step {B : List Nat} {v v' : World} {n g gr : Nat} (h : Fr v n g gr) (k : Step B v v') (hB : ∀ x ∈ B, x < n) : Fr v' n g gr :=
  ⟨k.cell h.a0 (fun e => by have := hB _ e; simp at this), k.cell h.b0 (fun e => by have := hB _ e; simp at this; omega), k.cell h.c0 (fun e => by have := hB _ e; simp at this; omega),
   k.cell h.c1 (fun e => by have := hB _ e; simp at this; omega), k.cell h.c2 (fun e => by have := hB _ e; simp at this; omega)⟩
theorem Fr.s0 {u : World} {n g gr : Nat} (h : Fr u n g gr) : u.cell? ⟨n, 0, none⟩ = some (.pointer (some ⟨g, 0, none⟩)) ∧ u.cell? ⟨n + 1 + 1, 0, none⟩ = some (.func (.func 103) #[] #[.pointer (some ⟨n, 0, none⟩)]) := ⟨h.a0, h.c0⟩
theorem Fr.s1 {u : World} {n g gr : Nat} (h : Fr u n g gr) : u.cell? ⟨n, 0, none⟩ = some (.pointer (some ⟨g, 0, none⟩)) ∧ u.cell? ⟨n + 1 + 1, 1, none⟩ = some (.func (.func 102) #[] #[.pointer (some ⟨n + 1, 0, none⟩)]) := ⟨h.a0, h.c1⟩
theorem Fr.s2 {u : World} {n g gr : Nat} (h : Fr u n g gr) : u.cell? ⟨n, 0, none⟩ = some (.pointer (some ⟨g, 0, none⟩)) ∧ u.cell? ⟨n + 1 + 1, 2, none⟩ = some (.func (.func 104) #[] #[.pointer (some ⟨n, 0, none⟩)]) := ⟨h.a0, h.c2⟩
theorem turn_a {p : PS} {x : WS} {gr : Nat} (e0 : ¬ p.useErr = 0) : turnErr p = p.useErr ∧ x.turn gr p = x ∧ p.turn = p.use := ⟨if_neg e0, if_neg e0, if_neg e0⟩
theorem turn_b {p : PS} {x : WS} {gr : Nat} (e0 : p.useErr = 0) (e1 : ¬ p.use.useErr = 0) : turnErr p = p.use.useErr ∧ x.turn gr p = x.put1 gr ∧ p.turn = p.use.use :=
  ⟨(if_pos e0).trans (if_neg e1), (if_pos e0).trans (if_neg e1), (if_pos e0).trans (if_neg e1)⟩
theorem turn_c {p : PS} {x : WS} {gr : Nat} (e0 : p.useErr = 0) (e1 : p.use.useErr = 0) (e2 : ¬ p.use.use.useErr = 0) : turnErr p = p.use.use.useErr ∧ x.turn gr p = (x.put1 gr).put0 ∧ p.turn = p.use.use.use :=
  ⟨(if_pos e0).trans (if_pos e1), (if_pos e0).trans ((if_pos e1).trans (if_neg e2)), (if_pos e0).trans (if_pos e1)⟩
theorem turn_d {p : PS} {x : WS} {gr : Nat} (e0 : p.useErr = 0) (e1 : p.use.useErr = 0) (e2 : p.use.use.useErr = 0) : turnErr p = 0 ∧ x.turn gr p = (x.put1 gr).put0.put2 ∧ p.turn = p.use.use.use :=
  ⟨((if_pos e0).trans (if_pos e1)).trans e2, (if_pos e0).trans ((if_pos e1).trans (if_pos e2)), (if_pos e0).trans (if_pos e1)⟩
set_option maxHeartbeats 1000000 in
theorem turnTo_any (g gr : Nat) (x : WS) (s : Option Nat) (p : PS) (w : World) (h : Ww w g x s) (hp : Sp w s p) (ht : Tab w) (ok : p.okk 3) (hgr : gr < 4294967296) (hs : s ≠ some g) (hsl : ∀ y ∈ s.toList, y < w.heap.size) :
    Calls Tryz.prog 74 #[.pointer (some ⟨g, 0, none⟩), .int .u32 gr] w fun e w' => e = .returned (.int .i64 (turnErr p)) ∧ Step (g :: s.toList) w w' ∧ Ww w' g (x.turn gr p) s ∧ Sp w' s p.turn := by
  have hmf : ∀ (fn : Fn) (first cap : Array Value) (w : World), (Instr.makeFunc fn first cap).run Tryz.prog w = .ok (.func fn first cap) w := fun _ _ _ _ => rfl
  have i0 : ∀ w, (Instr.index 211 (.agg #[.int .i64 1, .int .i64 0, .int .i64 2]) (.int .i64 0)).run Tryz.prog w = .ok (.int .i64 1) w := fun _ => by kernel_rfl
  have i1 : ∀ w, (Instr.index 211 (.agg #[.int .i64 1, .int .i64 0, .int .i64 2]) (.int .i64 1)).run Tryz.prog w = .ok (.int .i64 0) w := fun _ => by kernel_rfl
  have i2 : ∀ w, (Instr.index 211 (.agg #[.int .i64 1, .int .i64 0, .int .i64 2]) (.int .i64 2)).run Tryz.prog w = .ok (.int .i64 2) w := fun _ => by kernel_rfl
  have t0 := ht.c0; have t1 := ht.c1; have t2 := ht.c2; have tl := ht.lt; have hlt := h.lt
  have tz0 : ¬ w.heap.size = 0 := by omega
  have tz1 : ¬ w.heap.size = 1 := by omega
  have tz2 : ¬ 1 = w.heap.size := by omega
  have tz3 : 0 < w.heap.size := by omega
  have hgs : g ∉ s.toList := by intro e; cases s with
    | none => simp at e
    | some y => simp at e; exact hs (by rw [e])
  go_enter Tryz.func74, Tryz.ntmps74
  go_wp2_with fail
  have hF : Fr (((w.alloc (Obj.cells #[Value.pointer (some ⟨g, 0, none⟩)] 47)).alloc (Obj.cells #[Value.int IntKind.u32 gr] 22)).alloc (Obj.cells #[.func (.func 103) #[] #[.pointer (some ⟨w.heap.size, 0, none⟩)], .func (.func 102) #[] #[.pointer (some ⟨w.heap.size + 1, 0, none⟩)], .func (.func 104) #[] #[.pointer (some ⟨w.heap.size, 0, none⟩)]] 210)) w.heap.size g gr := by
    constructor <;> simp [go_sem]
  have k0 : Step (g :: s.toList) w (((w.alloc (Obj.cells #[Value.pointer (some ⟨g, 0, none⟩)] 47)).alloc (Obj.cells #[Value.int IntKind.u32 gr] 22)).alloc (Obj.cells #[.func (.func 103) #[] #[.pointer (some ⟨w.heap.size, 0, none⟩)], .func (.func 102) #[] #[.pointer (some ⟨w.heap.size + 1, 0, none⟩)], .func (.func 104) #[] #[.pointer (some ⟨w.heap.size, 0, none⟩)]] 210)) := ((step_alloc _ _ _).alloc _).alloc _
  have k0' : Step [] w (((w.alloc (Obj.cells #[Value.pointer (some ⟨g, 0, none⟩)] 47)).alloc (Obj.cells #[Value.int IntKind.u32 gr] 22)).alloc (Obj.cells #[.func (.func 103) #[] #[.pointer (some ⟨w.heap.size, 0, none⟩)], .func (.func 102) #[] #[.pointer (some ⟨w.heap.size + 1, 0, none⟩)], .func (.func 104) #[] #[.pointer (some ⟨w.heap.size, 0, none⟩)]] 210)) := ((step_alloc _ _ _).alloc _).alloc _
  have h' := h.step k0' (by simp)
  have hp' := hp.step k0' (by simp)
  clear k0'
  generalize hv : (((w.alloc (Obj.cells #[Value.pointer (some ⟨g, 0, none⟩)] 47)).alloc (Obj.cells #[Value.int IntKind.u32 gr] 22)).alloc (Obj.cells #[.func (.func 103) #[] #[.pointer (some ⟨w.heap.size, 0, none⟩)], .func (.func 102) #[] #[.pointer (some ⟨w.heap.size + 1, 0, none⟩)], .func (.func 104) #[] #[.pointer (some ⟨w.heap.size, 0, none⟩)]] 210)) = v at *
  clear hv
  generalize hn : w.heap.size = n at *
  have m0 := hF.a0; have m1 := hF.b0; have m2 := hF.c0; have m3 := hF.c1; have m4 := hF.c2; have mm := h'.c3
  refine wp_loop_rounds 4 ?_
  rw [rounds_succ]
  by_cases e0 : p.useErr = 0
  · go_wp2_with (first | (go_at_call 106; refine (suse_any s p _ hp' ok.ok).mono ?_; rintro e w1 ⟨rfl, k1, p1⟩; rw [e0]))
    have h1 := h'.step k1 hgs
    have hF1 := hF.step k1 (fun y hy => by have := hsl y hy; omega)
    have hFd := hF1.step (Step.refl [] w1).drew (by simp)
    have hS := hFd.s1
    have hT := (hFd.step (step_setCell w1.drew ⟨g, 1, none⟩ (.int .u32 gr) [g] (.inl (by simp))) (by simp; omega)).s1
    have b1 := hFd.b0
    have hWd := h1.step (Step.refl [] w1).drew (by simp)
    have z0 := hWd.f1; have zc := hWd.c1
    go_region_held3 (fun u => u.cell? ⟨n, 0, none⟩ = some (.pointer (some ⟨g, 0, none⟩)) ∧ u.cell? ⟨n + 1 + 1, 1, none⟩ = some (.func (.func 102) #[] #[.pointer (some ⟨n + 1, 0, none⟩)]))
      (first | exact hS | exact hT)
      (first
        | (go_at_call 102; refine (turn1_any _ gr _ b1).mono ?_; rintro e w2 ⟨rfl, rfl⟩))
    have hW2 : Ww (w1.setCell ⟨g, 1, none⟩ (.int .u32 gr)).drew g (x.put1 gr) s := hWd.set1 hgr
    have kA : Step (g :: s.toList) w (w1.setCell ⟨g, 1, none⟩ (.int .u32 gr)).drew := ((k0.next k1 (fun y hy => .inl (by simp [hy]))).drew).setCell (.inl (by simp)) _
    have hF2 : Fr (w1.setCell ⟨g, 1, none⟩ (.int .u32 gr)).drew n g gr := hFd.step (step_setCell w1.drew ⟨g, 1, none⟩ (.int .u32 gr) [g] (.inl (by simp))) (by simp; omega)
    have p2 : Sp (w1.setCell ⟨g, 1, none⟩ (.int .u32 gr)).drew s p.use := (p1.step (Step.refl [] w1).drew (by simp)).step (step_setCell w1.drew ⟨g, 1, none⟩ (.int .u32 gr) [g] (.inl (by simp))) (fun y hy e => by simp at e; subst e; exact hs hy)
    clear hS hT hFd b1 hWd z0 zc hF1 h1 p1 k1 hF h' hp' k0 m0 m1 m2 m3 m4 mm
    generalize (w1.setCell ⟨g, 1, none⟩ (.int .u32 gr)).drew = v2 at *
    have m0 := hF2.a0; have m1 := hF2.b0; have m2 := hF2.c0; have m3 := hF2.c1; have m4 := hF2.c2; have mm := hW2.c3
    go_wp2_with fail
    rw [rounds_succ]
    by_cases e1 : p.use.useErr = 0
    · go_wp2_with (first | (go_at_call 106; refine (suse_any s p.use _ p2 ok.use.ok).mono ?_; rintro e w3 ⟨rfl, k3, p3⟩; rw [e1]))
      have h3 := hW2.step k3 hgs
      have hF3 := hF2.step k3 (fun y hy => by have := hsl y hy; omega)
      have hFd := hF3.step (Step.refl [] w3).drew (by simp)
      have hS := hFd.s0
      have hT := (hFd.step (step_setCell w3.drew ⟨g, 0, none⟩ (.int .u32 (nx (x.put1 gr).a : Nat)) [g] (.inl (by simp))) (by simp; omega)).s0
      have b1 := hFd.a0
      have hWd := h3.step (Step.refl [] w3).drew (by simp)
      have z0 := hWd.f0; have zc := hWd.c0
      go_region_held3 (fun u => u.cell? ⟨n, 0, none⟩ = some (.pointer (some ⟨g, 0, none⟩)) ∧ u.cell? ⟨n + 1 + 1, 0, none⟩ = some (.func (.func 103) #[] #[.pointer (some ⟨n, 0, none⟩)]))
        (first | exact hS | exact hT)
        (first
          | (go_at_call 103; refine (turn2_any _ g (x.put1 gr) s _ b1 hWd).mono ?_; rintro e w4 ⟨rfl, rfl⟩))
      have hW4 : Ww (w3.setCell ⟨g, 0, none⟩ (.int .u32 (nx (x.put1 gr).a : Nat))).drew g (x.put1 gr).put0 s := hWd.set0 (n := nx (x.put1 gr).a) (nx_lt _)
      have kB : Step (g :: s.toList) w (w3.setCell ⟨g, 0, none⟩ (.int .u32 (nx (x.put1 gr).a : Nat))).drew := ((kA.next k3 (fun y hy => .inl (by simp [hy]))).drew).setCell (.inl (by simp)) _
      have hF4 : Fr (w3.setCell ⟨g, 0, none⟩ (.int .u32 (nx (x.put1 gr).a : Nat))).drew n g gr := hFd.step (step_setCell w3.drew ⟨g, 0, none⟩ (.int .u32 (nx (x.put1 gr).a : Nat)) [g] (.inl (by simp))) (by simp; omega)
      have p4 : Sp (w3.setCell ⟨g, 0, none⟩ (.int .u32 (nx (x.put1 gr).a : Nat))).drew s p.use.use := (p3.step (Step.refl [] w3).drew (by simp)).step (step_setCell w3.drew ⟨g, 0, none⟩ (.int .u32 (nx (x.put1 gr).a : Nat)) [g] (.inl (by simp))) (fun y hy e => by simp at e; subst e; exact hs hy)
      clear hS hT hFd b1 hWd z0 zc hF3 h3 p3 k3 hF2 hW2 p2 kA m0 m1 m2 m3 m4 mm
      generalize (w3.setCell ⟨g, 0, none⟩ (.int .u32 (nx (x.put1 gr).a : Nat))).drew = v4 at *
      have m0 := hF4.a0; have m1 := hF4.b0; have m2 := hF4.c0; have m3 := hF4.c1; have m4 := hF4.c2; have mm := hW4.c3
      go_wp2_with fail
      rw [rounds_succ]
      by_cases e2 : p.use.use.useErr = 0
      · go_wp2_with (first | (go_at_call 106; refine (suse_any s p.use.use _ p4 ok.use.use.ok).mono ?_; rintro e w5 ⟨rfl, k5, p5⟩; rw [e2]))
        have h5 := Ww.step hW4 k5 hgs
        have hF5 := hF4.step k5 (fun y hy => by have := hsl y hy; omega)
        have hFd := hF5.step (Step.refl [] w5).drew (by simp)
        have hS := hFd.s2
        have b1 := hFd.a0
        have hWd := h5.step (Step.refl [] w5).drew (by simp)
        go_region_held3 (fun u => u.cell? ⟨n, 0, none⟩ = some (.pointer (some ⟨g, 0, none⟩)) ∧ u.cell? ⟨n + 1 + 1, 2, none⟩ = some (.func (.func 104) #[] #[.pointer (some ⟨n, 0, none⟩)]))
          (first | exact hS | exact hS' | exact hT)
          (first
            | (go_at_call 104; refine (turn3_any _ g _ s _ b1 hWd).mono ?_; rintro e w6 ⟨rfl, b6⟩; have hF6 := hFd.step (step_below b6 []) (by simp); have hS' := hF6.s2; have hW6 := hWd.later b6; have z0 := hW6.f2; have zc := hW6.c2; have hT := (hF6.step (step_setCell w6 ⟨g, 2, none⟩ (.int .u32 (sm ((x.put1 gr).put0).a ((x.put1 gr).put0).b : Nat)) [g] (.inl (by simp))) (by simp; omega)).s2))
        have hW7 := hW6.set2 (n := sm ((x.put1 gr).put0).a ((x.put1 gr).put0).b) (sm_lt _ _)
        have kC : Step (g :: s.toList) w (w6.setCell ⟨g, 2, none⟩ (.int .u32 (sm ((x.put1 gr).put0).a ((x.put1 gr).put0).b : Nat))) := (((kB.next k5 (fun y hy => .inl (by simp [hy]))).drew).trans (step_below b6 _)).setCell (.inl (by simp)) _
        have p7 : Sp (w6.setCell ⟨g, 2, none⟩ (.int .u32 (sm ((x.put1 gr).put0).a ((x.put1 gr).put0).b : Nat))) s p.use.use.use := ((p5.step (Step.refl [] w5).drew (by simp)).step (step_below b6 []) (by simp)).step (step_setCell w6 ⟨g, 2, none⟩ _ [g] (.inl (by simp))) (fun y hy e => by simp at e; subst e; exact hs hy)
        go_wp2_with fail
        rw [rounds_succ]
        go_wp2_with fail
        go_returns
        obtain ⟨r1, r2, r3⟩ := turn_d (x := x) (gr := gr) e0 e1 e2
        rw [r1, r2, r3]
        exact ⟨rfl, kC, hW7, p7⟩
      · go_wp2_with (first | (go_at_call 106; refine (suse_any s p.use.use _ p4 ok.use.use.ok).mono ?_; rintro e w5 ⟨rfl, k5, p5⟩))
        go_returns
        obtain ⟨r1, r2, r3⟩ := turn_c (x := x) (gr := gr) e0 e1 e2
        rw [r1, r2, r3]
        exact ⟨rfl, kB.next k5 (fun y hy => .inl (by simp [hy])), Ww.step hW4 k5 hgs, p5⟩
    · go_wp2_with (first | (go_at_call 106; refine (suse_any s p.use _ p2 ok.use.ok).mono ?_; rintro e w3 ⟨rfl, k3, p3⟩))
      go_returns
      obtain ⟨r1, r2, r3⟩ := turn_b (x := x) (gr := gr) e0 e1
      rw [r1, r2, r3]
      exact ⟨rfl, kA.next k3 (fun y hy => .inl (by simp [hy])), Ww.step hW2 k3 hgs, p3⟩
  · go_wp2_with (first | (go_at_call 106; refine (suse_any s p _ hp' ok.ok).mono ?_; rintro e w1 ⟨rfl, k1, p1⟩))
    go_returns
    obtain ⟨r1, r2, r3⟩ := turn_a (x := x) (gr := gr) e0
    rw [r1, r2, r3]
    exact ⟨rfl, k0.next k1 (fun y hy => .inl (by simp [hy])), h'.step k1 hgs, p1⟩
end Go.Proofs.YtgdnhkdfcjpdiaaGreatDoor
