/-
  What the words of layer 5 are in memory, and what their sum is: no statement is proved here.
-/
import Derived.Test.YteaaipkfggnjgaaDoorNumA
import Derived.Test.YteaaipkfggnjgaaDoorCrcC
import Derived.Test.YteaaipkfggnjgaaDoorPowB2
import Derived.Test.YteaaipkfggnjgaaDoorPlain5
namespace Go.Proofs.YteaaipkfggnjgaaDoor
open Go.ChangeShapes Go.WideShapes Go.ChangeAt Go.RowKit
set_option linter.unusedVariables false

/-- A supply that there is, or none. -/
def Sp (w : World) (s : Option Nat) (p : PS) : Prop := match s with
  | none => p.lim = false ∧ p.gone = false
  | some g => Pw w g p
def sptr (s : Option Nat) : Value := .pointer (s.map fun g => ⟨g, 0, none⟩)
theorem Sp.step {B : List Nat} {w w' : World} {s : Option Nat} {p : PS} (h : Sp w s p) (k : Step B w w') (hg : ∀ g, s = some g → g ∉ B) : Sp w' s p := by
  cases s with
  | none => exact h
  | some g => exact Pw.step h k (hg g rfl)
theorem suse_any (s : Option Nat) (p : PS) (w : World) (h : Sp w s p) (ok : p.ok) :
    Calls Tryd.prog 27 #[sptr s] w fun e w' => e = .returned (.int .i64 p.useErr) ∧ Step s.toList w w' ∧ Sp w' s p.use := by
  cases s with
  | none =>
    obtain ⟨h1, h2⟩ := h
    have e : p.useErr = 0 := by unfold PS.useErr PS.down; rw [h1, h2]; rfl
    refine (puse_nil w).mono ?_
    rintro e' w' ⟨rfl, b⟩
    rw [e]
    refine ⟨rfl, step_below b _, ?_⟩
    unfold PS.use PS.reckon; rw [e]; simp [h1]; exact ⟨rfl, h2⟩
  | some g =>
    refine (puse_any g p w h ok).mono ?_
    rintro e' w' ⟨rfl, b, h'⟩
    exact ⟨rfl, b, h'⟩

/-- Four bytes of a number, the lowest first; the sum of two. -/
def by4 (x : Nat) : List Int := [(x : Int) % 256, (x : Int) / 256 % 256, (x : Int) / 65536 % 256, (x : Int) / 16777216]
theorem by4_byte {x : Nat} (h : x < 4294967296) : ∀ z ∈ by4 x, 0 ≤ z ∧ z ≤ 255 := four_range (by omega) (by omega) (by omega) (by omega)
def sm (a b : Nat) : Nat := sumOf (by4 a ++ by4 b)
theorem sm_lt (a b : Nat) : sm a b < 4294967296 := by have := sum_lt (by4 a ++ by4 b); unfold sm; omega

/-- What the words hold. -/
structure WS where
  a : Nat
  b : Nat
  c : Nat
structure Ww (w : World) (g : Nat) (x : WS) (s : Option Nat) : Prop where
  c0 : w.cell? ⟨g, 0, none⟩ = some (.int .u32 x.a)
  c1 : w.cell? ⟨g, 1, none⟩ = some (.int .u32 x.b)
  c2 : w.cell? ⟨g, 2, none⟩ = some (.int .u32 x.c)
  c3 : w.cell? ⟨g, 3, none⟩ = some (sptr s)
  f0 : w.frozen? ⟨g, 0, none⟩ = false
  f1 : w.frozen? ⟨g, 1, none⟩ = false
  f2 : w.frozen? ⟨g, 2, none⟩ = false
  l0 : x.a < 4294967296
  l1 : x.b < 4294967296
  l2 : x.c < 4294967296
theorem Ww.lt {w : World} {g : Nat} {x : WS} {s : Option Nat} (h : Ww w g x s) : g < w.heap.size := World.block_lt_of_cell? w ⟨g, 0, none⟩ h.c0
theorem Ww.step {B : List Nat} {w w' : World} {g : Nat} {x : WS} {s : Option Nat} (h : Ww w g x s) (k : Step B w w') (hg : g ∉ B) : Ww w' g x s :=
  ⟨k.cell h.c0 hg, k.cell h.c1 hg, k.cell h.c2 hg, k.cell h.c3 hg, by rw [k.frozen (p := ⟨g, 0, none⟩) h.lt hg]; exact h.f0, by rw [k.frozen (p := ⟨g, 1, none⟩) h.lt hg]; exact h.f1,
   by rw [k.frozen (p := ⟨g, 2, none⟩) h.lt hg]; exact h.f2, h.l0, h.l1, h.l2⟩
theorem Ww.later {w w' : World} {g : Nat} {x : WS} {s : Option Nat} (h : Ww w g x s) (k : Below w.heap.size w w') : Ww w' g x s := h.step (step_below k []) (by simp)
theorem Ww.set0 {w : World} {g : Nat} {x : WS} {s : Option Nat} (h : Ww w g x s) {n : Nat} (hn : n < 4294967296) : Ww (w.setCell ⟨g, 0, none⟩ (.int .u32 n)) g { x with a := n } s :=
  ⟨World.cell?_setCell_same _ _ _ h.c0, by rw [World.cell?_setCell_other _ _ _ _ (by simp)]; exact h.c1, by rw [World.cell?_setCell_other _ _ _ _ (by simp)]; exact h.c2, by rw [World.cell?_setCell_other _ _ _ _ (by simp)]; exact h.c3,
   by simpa using h.f0, by simpa using h.f1, by simpa using h.f2, hn, h.l1, h.l2⟩
theorem Ww.set1 {w : World} {g : Nat} {x : WS} {s : Option Nat} (h : Ww w g x s) {n : Nat} (hn : n < 4294967296) : Ww (w.setCell ⟨g, 1, none⟩ (.int .u32 n)) g { x with b := n } s :=
  ⟨by rw [World.cell?_setCell_other _ _ _ _ (by simp)]; exact h.c0, World.cell?_setCell_same _ _ _ h.c1, by rw [World.cell?_setCell_other _ _ _ _ (by simp)]; exact h.c2, by rw [World.cell?_setCell_other _ _ _ _ (by simp)]; exact h.c3,
   by simpa using h.f0, by simpa using h.f1, by simpa using h.f2, h.l0, hn, h.l2⟩
theorem Ww.set2 {w : World} {g : Nat} {x : WS} {s : Option Nat} (h : Ww w g x s) {n : Nat} (hn : n < 4294967296) : Ww (w.setCell ⟨g, 2, none⟩ (.int .u32 n)) g { x with c := n } s :=
  ⟨by rw [World.cell?_setCell_other _ _ _ _ (by simp)]; exact h.c0, by rw [World.cell?_setCell_other _ _ _ _ (by simp)]; exact h.c1, World.cell?_setCell_same _ _ _ h.c2, by rw [World.cell?_setCell_other _ _ _ _ (by simp)]; exact h.c3,
   by simpa using h.f0, by simpa using h.f1, by simpa using h.f2, h.l0, h.l1, hn⟩

theorem nnew_any (s : Option Nat) (w : World) :
    Calls Tryd.prog 7 #[sptr s] w fun e w' => e = .returned (.pointer (some ⟨w.heap.size, 0, none⟩)) ∧ Below w.heap.size w w' ∧ Ww w' w.heap.size ⟨0, 0, 0⟩ s ∧ w'.heap.size = w.heap.size + 1 := by
  cases s
  all_goals unfold sptr
  all_goals simp only [Option.map_none, Option.map_some]
  all_goals go_enter Tryd.func7, Tryd.ntmps7
  all_goals go_wp2
  all_goals go_returns
  all_goals refine ⟨rfl, by go_grown, ?_, by simp⟩
  all_goals (constructor <;> simp [go_sem, sptr])

theorem bs4 {W : World} {b x : Nat} (hx : x < 4294967296) (h0 : W.cell? ⟨b, 0, none⟩ = some (.int .u8 ((x : Int) % 256))) (h1 : W.cell? ⟨b, 1, none⟩ = some (.int .u8 ((x : Int) / 256 % 256)))
    (h2 : W.cell? ⟨b, 2, none⟩ = some (.int .u8 ((x : Int) / 65536 % 256))) (h3 : W.cell? ⟨b, 3, none⟩ = some (.int .u8 ((x : Int) / 16777216))) : Bs W (some ⟨b, 0, none⟩) 4 4 (by4 x) := by
  refine ⟨rfl, Nat.le_refl _, by decide, (fun h => by cases h), by4_byte hx, fun _ => ⟨b, 0, rfl, fun i hi => ?_⟩⟩
  have : i = 0 ∨ i = 1 ∨ i = 2 ∨ i = 3 := by omega
  rcases this with rfl | rfl | rfl | rfl <;> assumption
theorem bss2 {W : World} {b b' x y G : Nat} (e : TypeId) (hG : W.heap.size = G) (h : Bs W (some ⟨b, 0, none⟩) 4 4 (by4 x)) (h' : Bs W (some ⟨b', 0, none⟩) 4 4 (by4 y)) :
    Bss (W.alloc (.cells #[.slice (some ⟨b, 0, none⟩) 4 4, .slice (some ⟨b', 0, none⟩) 4 4] e)) (some ⟨G, 0, none⟩) 2 2 [by4 x, by4 y] := by
  subst hG
  refine bss_alloc W e [.slice (some ⟨b, 0, none⟩) 4 4, .slice (some ⟨b', 0, none⟩) 4 4] [by4 x, by4 y] rfl (by unfold maxLen; simp) fun i hi => ?_
  have : i = 0 ∨ i = 1 := by simp at hi; omega
  rcases this with rfl | rfl
  · exact ⟨_, _, _, rfl, h⟩
  · exact ⟨_, _, _, rfl, h'⟩
theorem flat_len2 (x y : Nat) : [by4 x, by4 y].flatten.length ≤ 1000000000000 := by simp [by4]
theorem sm_eq (x y : Nat) : sumOf [by4 x, by4 y].flatten = sm x y := by unfold sm; simp

theorem put32_ex (x : Int) (w : World) (h0 : 0 ≤ x) (h1 : x ≤ 4294967295) :
    Calls Tryd.prog 28 #[.int .u32 x] w fun e w' => e = .returned (.agg #[.int .u8 (x % 256), .int .u8 (x / 256 % 256), .int .u8 (x / 65536 % 256), .int .u8 (x / 16777216)]) ∧
      w' = (w.alloc (.cells #[.int .u8 (x % 256), .int .u8 (x / 256 % 256), .int .u8 (x / 65536 % 256), .int .u8 (x / 16777216)] 52)).alloc (.cells #[.int .u8 (x % 256), .int .u8 (x / 256 % 256), .int .u8 (x / 65536 % 256), .int .u8 (x / 16777216)] 52) := by
  go_enter Tryd.func28, Tryd.ntmps28
  go_wp2
  go_rounds 5
  go_returns
  exact ⟨rfl, rfl⟩

set_option maxHeartbeats 8000000 in
theorem nsum_any (g : Nat) (x : WS) (s : Option Nat) (w : World) (h : Ww w g x s) :
    Calls Tryd.prog 22 #[.pointer (some ⟨g, 0, none⟩)] w fun e w' => e = .returned (.int .u32 (sm x.a x.b : Nat)) ∧ Below w.heap.size w w' := by
  have m0 := h.c0; have m1 := h.c1; have l0 := h.l0; have l1 := h.l1; have hlt := h.lt
  generalize hsm : sm x.a x.b = S
  have tok : True := trivial
  go_enter Tryd.func22, Tryd.ntmps22
  have hK : ∀ w', Below w.heap.size w w' → (Below w.heap.size w w' ∧ w'.cell? ⟨g, 0, none⟩ = some (.int .u32 x.a) ∧ w'.cell? ⟨g, 1, none⟩ = some (.int .u32 x.b)) := fun w' hb => ⟨hb, (h.later hb).c0, (h.later hb).c1⟩
  have hD := hK _ (Below.refl w.heap.size w).drew
  go_wp2_with fail
  go_region_held3 (fun w' => Below w.heap.size w w' ∧ w'.cell? ⟨g, 0, none⟩ = some (.int .u32 x.a) ∧ w'.cell? ⟨g, 1, none⟩ = some (.int .u32 x.b))
    (first | assumption | exact hK _ (by go_grown))
    (first
      | (have _t := tok; go_at_call 28; refine (put32_ex x.a _ (by omega) (by omega)).mono ?_; rintro e w1 ⟨rfl, rfl⟩; clear _t tok)
      | (go_at_call 28; refine (put32_ex x.b _ (by omega) (by omega)).mono ?_; rintro e w2 ⟨rfl, rfl⟩))
  all_goals
    clear hK hD m0 m1
    go_wp2_with fail
    go_region_held3 (fun _ => True) (trivial)
      (first | (go_at_call 29; refine (of_any _ 2 2 [by4 x.a, by4 x.b] _ (Bss.later (bss2 _ (by simp [go_sem]) (bs4 l0 (by simp [go_sem]) (by simp [go_sem]) (by simp [go_sem]) (by simp [go_sem])) (bs4 l1 (by simp [go_sem]) (by simp [go_sem]) (by simp [go_sem]) (by simp [go_sem]))) (Below.drew (Below.drew (Below.refl _ _)))) (flat_len2 _ _)).mono ?_; rintro e w3 ⟨rfl, b3⟩))
    go_wp2_with fail
    go_returns
    exact ⟨by subst hsm; rfl, bnext (by go_grown) b3 (Nat.le_refl _)⟩
end Go.Proofs.YteaaipkfggnjgaaDoor
