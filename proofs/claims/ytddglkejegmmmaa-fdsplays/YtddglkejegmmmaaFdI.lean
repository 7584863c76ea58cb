/-
  Acts of layer 24 that came in, and the chapter's example: no statement is proved here.
-/
import Derived.Test.YtddglkejegmmmaaFdE
import Derived.Test.YtddglkejegmmmaaFdH
import Derived.Test.YtddglkejegmmmaaBaseA
import Derived.Test.YtddglkejegmmmaaSmA
namespace Go.Proofs.Ytddglkejegmmmaa
open Go.ChangeShapes Go.WideShapes Go.ChangeAt Go.RowKit
set_option linter.unusedVariables false
set_option linter.unusedSimpArgs false

theorem Fl.cs_len (f : Fl) : f.cs.length = 3 := rfl
/-- Three numbers as an act. -/
def Fl.ok (f : Fl) : Prop := wfi f.i ∧ wfi f.p ∧ wfi f.m
/-- A slice of acts. -/
structure Fls (w : World) (a : Option Addr) (n c : Nat) (l : List Fl) : Prop where
  len : l.length = n
  le : n ≤ c
  cap : c ≤ maxLen
  cell : 0 < n → ∃ b o, a = some ⟨b, o, none⟩ ∧ ∀ i, i < n → ∃ x : Fl, l[i]? = some x ∧ w.rangeAt b (o + i * 3) x.cs ∧ x.ok
theorem Fls.step {w w' : World} {a : Option Addr} {n c : Nat} {l : List Fl} {U : Nat → Prop} (h : Fls w a n c l) (hb : Stp U w w') (hU : ∀ x, U x → w.heap.size ≤ x) : Fls w' a n c l :=
  ⟨h.len, h.le, h.cap, fun hn => by
    obtain ⟨b, o, e, hc⟩ := h.cell hn
    refine ⟨b, o, e, fun i hi => ?_⟩
    obtain ⟨x, e1, e2, e3⟩ := hc i hi
    have hl : b < w.heap.size := World.block_lt_of_cell? w ⟨b, o + i * 3 + 0, none⟩ (e2 0 (.int .i64 x.i) rfl)
    exact ⟨x, e1, hb.range e2 (fun e => by have := hU _ e; omega), e3⟩⟩
theorem Fls.later {w w' : World} {a : Option Addr} {n c : Nat} {l : List Fl} (h : Fls w a n c l) (hb : Below w.heap.size w w') : Fls w' a n c l := h.step (Stp.of_below hb (fun _ => False)) (fun _ e => e.elim)
section
variable {H : Type} {enc : TypeId × Value → H} {w : World} {base : Nat} {spare : Nat → Bool} {held : Bool}
set_option maxRecDepth 100000 in
theorem fl_of_trod {fuel : Nat} {cs : List Value} {x : DataW H × List MemPlace} (h : DataW.trod enc Try.prog w base spare held fuel 28 cs = some x) : ∃ a : Fl, a.cs = cs ∧ a.ok := by
  obtain ⟨fs, hfs, hf0, hf1, hf2⟩ : ∃ fs : Array Field, Try.prog.underlying 28 = some (.struct fs) ∧ (fs[0]?.map fun f => (f.offset, f.type)) = some (0, 3) ∧ (fs[1]?.map fun f => (f.offset, f.type)) = some (1, 3) ∧ (fs[2]?.map fun f => (f.offset, f.type)) = some (2, 3) :=
    ⟨_, Try.underlying28, rfl, rfl, rfl⟩
  have hsz : fs.size = 3 := by
    have e := Try.underlying28
    rw [hfs] at e; injection e with e; injection e with e; subst e; rfl
  obtain ⟨xs, m, _, _, hl, hx, hi⟩ := DataW.trod_struct hfs h
  have hl' : cs.length = 3 := hl.trans (by kernel_rfl)
  have ci : Try.prog.cellsOf 3 = 1 := by kernel_rfl
  have get : ∀ i o t, (fs[i]?.map fun f => (f.offset, f.type)) = some (o, t) → i < 3 → ∃ y, DataW.trod enc Try.prog w base spare held m t ((cs.drop o).take (Try.prog.cellsOf t)) = some y := fun i o t e hi4 => by
    cases ef : fs[i]? with
    | none => rw [ef] at e; cases e
    | some f =>
      rw [ef] at e
      simp only [Option.map_some, Option.some.injEq, Prod.mk.injEq] at e
      have := hi i f ef
      rw [e.1, e.2, List.getElem?_eq_getElem (by omega)] at this
      exact ⟨_, this⟩
  obtain ⟨_, g0⟩ := get 0 0 _ hf0 (by omega)
  obtain ⟨_, g1⟩ := get 1 1 _ hf1 (by omega)
  obtain ⟨_, g2⟩ := get 2 2 _ hf2 (by omega)
  rw [ci] at g0 g1 g2
  obtain ⟨d, e0, _, w0⟩ := DataW.trod_int u3 g0
  obtain ⟨t, e1, _, w1⟩ := DataW.trod_int u3 g1
  obtain ⟨b, e2, _, w2⟩ := DataW.trod_int u3 g2
  refine ⟨⟨d, t, b⟩, ?_, w0, w1, w2⟩
  unfold Fl.cs
  simp only
  rcases cs with _ | ⟨v0, _ | ⟨v1, _ | ⟨v2, _ | ⟨v3, r⟩⟩⟩⟩
  · simp at hl'
  · simp at hl'
  · simp at hl'
  · simp at e0 e1 e2
    rw [e0, e1, e2]
  · simp at hl'
theorem fls_of_trod {fuel : Nat} {cs : List Value} {x : DataW H × List MemPlace} (h : DataW.trod enc Try.prog w base spare held fuel 22 cs = some x) : ∃ a n c l, cs = [.slice a n c] ∧ Fls w a n c l := by
  rcases Deep.open_slice (e := 28) (by kernel_rfl) h with ⟨hcs, _⟩ | ⟨a, len, cap, m, n, D, Pl, hcs, _, hl, hm, hmm, _, hx⟩
  · exact ⟨_, _, _, [], hcs, rfl, Nat.le_refl _, by decide, fun h => absurd h (by omega)⟩
  · have c66 : Try.prog.cellsOf 28 = 3 := by kernel_rfl
    have hlm : len ≤ m := by rw [hmm]; split <;> omega
    have each : ∀ i, i < len → ∃ y : Fl, (∀ j v, y.cs[j]? = some v → w.cell? (a.add (i * 3 + j)) = some v) ∧ y.ok := fun i hi => by
      obtain ⟨cs', h1, h2⟩ := hx i (by omega)
      rw [c66] at h1
      obtain ⟨y, e1, e2⟩ := fl_of_trod h2
      obtain ⟨_, hlen, hcell⟩ := World.cells?_some h1
      refine ⟨y, fun j v hv => ?_, e2⟩
      have hj : j < 3 := by have := (List.getElem?_eq_some_iff.1 hv).1; rw [y.cs_len] at this; exact this
      have := hcell j hj
      rw [Deep.add_add, ← e1, hv] at this
      exact this
    refine ⟨_, _, _, (List.range len).map fun i => if hi : i < len then Classical.choose (each i hi) else Fl.zero, hcs, by simp, hl, hm, fun hn => ?_⟩
    obtain ⟨b, o, spot⟩ := a
    have hspot : spot = none := by
      obtain ⟨y, hy, _⟩ := each 0 hn
      have := hy 0 (.int .i64 y.i) rfl
      simpa [Addr.add] using World.cell?_spot this
    subst hspot
    refine ⟨b, o, rfl, fun i hi => ⟨_, by rw [List.getElem?_map, List.getElem?_range hi]; rfl, ?_⟩⟩
    simp only [dif_pos hi]
    have hs := Classical.choose_spec (each i hi)
    refine ⟨fun j v hv => ?_, hs.2⟩
    have := hs.1 j v hv
    rw [Addr.add_mid] at this
    rw [show o + i * 3 + j = o + (i * 3 + j) by omega]; exact this
end
/-- The example, as a plain function. -/
def fw1 : FT := fdOpen fdNew 5 1
def fw2 : FT := fdOpen fw1 6 1
def fw3 : FT := fdClose fw2 0
def fw4 : FT := fdOpen fw3 7 2
theorem FdG.go {U : Nat → Prop} {g : Nat} {t : FT} {w0 w w' : World} (b : Below w0.heap.size w0 w) (hU : ∀ x, U x → w0.heap.size ≤ x) (k : FdG U g t w w') : ∃ U', Fd w' U' g t ∧ (∀ x, U' x → w0.heap.size ≤ x) ∧ Below w0.heap.size w0 w' := by
  obtain ⟨U', F, s, G⟩ := k
  refine ⟨U', F, fun x hx => ?_, ((Stp.of_below b U).trans s).below (Nat.le_refl _) hU⟩
  rcases G x hx with e | e
  · exact hU x e
  · exact Nat.le_trans b.size e.1
theorem fworks_any (w : World) :
    Calls Try.prog 24 #[] w fun e w' => e = .returned (.bool true) ∧ Below w.heap.size w w' := by
  have hN := fnew_any w
  have o1 := fun (u : World) U g (h : Fd u U g fdNew) => fopen_any h 5 1
  have o2 := fun (u : World) U g (h : Fd u U g fw1) => fopen_any h 6 1
  have o3 := fun (u : World) U g (h : Fd u U g fw2) => fclose_any h 0
  have o4 := fun (u : World) U g (h : Fd u U g fw3) => fopen_any h 7 2
  have o5 := fun (u : World) U g (h : Fd u U g fw4) => fcount_any h 7
  rw [show fdOpenN fdNew = 0 from by decide +kernel, show fdOpenE fdNew = 0 from by decide +kernel, show fdOpen fdNew 5 1 = fw1 from rfl] at o1
  rw [show fdOpenN fw1 = 1 from by decide +kernel, show fdOpenE fw1 = 0 from by decide +kernel, show fdOpen fw1 6 1 = fw2 from rfl] at o2
  rw [show fdGet fw2 0 = ⟨5, 0, 1⟩ from rfl, show fdGetE fw2 0 = 0 from by decide +kernel, show fdClose fw2 0 = fw3 from rfl] at o3
  rw [show fdOpenN fw3 = 0 from by decide +kernel, show fdOpenE fw3 = 0 from by decide +kernel, show fdOpen fw3 7 2 = fw4 from rfl] at o4
  rw [show fdCt fw4 7 8 = 1 from by decide +kernel] at o5
  go_enter Try.func24, Try.ntmps24
  go_wp2_with (go_at_call 6; refine hN.mono ?_; rintro e w1 ⟨g, U1, rfl, g1, b1, F1, L1⟩; clear hN)
  go_wp2_with (go_at_call 9; refine (o1 _ _ _ F1).mono ?_; rintro e w2 ⟨rfl, k2⟩; clear o1)
  obtain ⟨U2, F2, L2, b2⟩ := FdG.go b1 L1 k2
  go_wp2_with (go_at_call 9; refine (o2 _ _ _ F2).mono ?_; rintro e w3 ⟨rfl, k3⟩; clear o2)
  obtain ⟨U3, F3, L3, b3⟩ := FdG.go b2 L2 k3
  clear k2 k3 F1 F2 L1 L2 b1 b2
  go_wp2_with (first
    | (go_at_call 11; refine (o3 _ _ _ F3).mono ?_; rintro e w4 ⟨rfl, F4, s4⟩; clear o3
       have b4 := ((Stp.of_below b3 U3).trans s4).below (Nat.le_refl _) L3)
    | (refine at_newFl (by rfl) (by rfl) ?_; intro g5 w5 z1 z2 r5 b5)
    | (refine at_putFl (by rfl) _ _ (by rfl) g5 (by rfl) ⟨5, 0, 1⟩ (by rfl) _ r5 rfl ?_; intro w6 r6 s6))
  have B6 : Below w4.heap.size w4 w6 := ((Stp.of_below b5 (fun _ => False)).next s6 (fun x e => .inr (by omega))).below (Nat.le_refl _) (fun _ h => h.elim)
  have F6 := F4.later B6
  have b6 := bnext b4 B6 (Nat.le_refl _)
  have hg5 : ∀ x, U3 x → ¬ x = g5 := fun x hx e => by have := F4.low x hx; omega
  go_wp2_with (go_at_call 9; refine (o4 _ _ _ F6).mono ?_; rintro e w7 ⟨rfl, k7⟩; clear o4
               have r7 := r6.step k7.choose_spec.2.1 (fun e => hg5 g5 e rfl)
               obtain ⟨U7, F7, L7, b7⟩ := FdG.go b6 L3 k7
               have c7 := r7.cell 0 _ (show (Fl.mk 5 0 1).cs[0]? = some (.int .i64 5) from rfl))
  go_wp2_with (go_at_call 18; refine (o5 _ _ _ F7).mono ?_; rintro e w8 ⟨rfl, b8⟩; clear o5)
  go_returns
  exact ⟨by simp, bnext b7 b8 (Nat.le_refl _)⟩
end Go.Proofs.Ytddglkejegmmmaa
