/-
  A graph of layer 14 that was made since, and what its functions leave of it: no statement is proved here.
-/
import Derived.Test.YtdfifneikmlmoaaGreatGrR
namespace Go.Proofs.YtdfifneikmlmoaaGreat
open Go.ChangeShapes Go.WideShapes Go.ChangeAt Go.RowKit
set_option linter.unusedVariables false
set_option linter.unusedSimpArgs false

theorem rdS_sub (l : List Pt) : ∀ (W late : List Pt) (p : Pt), p ∈ rdS l late W → p ∈ W
  | [], late, p, h => by simp [rdS] at h
  | a :: t, late, p, h => by
    unfold rdS at h
    split at h
    · exact List.mem_cons_of_mem _ (rdS_sub l t _ p h)
    · rcases List.mem_cons.1 h with rfl | h
      · exact List.mem_cons_self
      · exact List.mem_cons_of_mem _ (rdS_sub l t _ p h)
/-- The graph at g is Z, and all of it lies behind N. -/
structure G1 (N : Nat) (w : World) (g : Nat) (Z : GZ) : Prop where
  ex : ∃ E F, Gh w g Z E F ∧ (∀ x, F x → N ≤ x) ∧ (∀ x, E x → N ≤ x)
  nl : ∀ p ∈ Z.l, p.needs.length ≤ 100000
section
variable {N g : Nat} {w w' w0 : World} {Z : GZ}
theorem G1.later (h : G1 N w g Z) (k : Below w.heap.size w w') : G1 N w' g Z := by
  obtain ⟨⟨E, F, h1, h2, h3⟩, h4⟩ := h
  exact ⟨⟨E, F, h1.later k, h2, h3⟩, h4⟩
theorem G1.ok (h : G1 N w g Z) : Z.ok 2000 := by
  obtain ⟨⟨E, F, ⟨_, _, _, _, H⟩, _⟩, _⟩ := h; exact H.ok
theorem new_1 (w : World) : Calls Tryz.prog 20 #[] w fun e w' => ∃ g, e = .returned (.pointer (some ⟨g, 0, none⟩)) ∧ G1 w.heap.size w' g GZ.new ∧ Below w.heap.size w w' := by
  refine (new_any w).mono ?_
  rintro e w' ⟨g, rfl, E, F, h1, h2, h3, h4⟩
  exact ⟨g, rfl, ⟨⟨E, F, h1, h2, h3⟩, (fun p hp => by cases hp)⟩, h4⟩
theorem add_1 (h : G1 N w0 g Z) (b : Below w0.heap.size w0 w) (p : Pt) (d n : Sv) (hp : p.wfp) (hpm : PtM w (fun x => w0.heap.size ≤ x) p d n) (hlt : Z.last < 2000) (hd : p.data.length ≤ 100000) (hn : p.needs.length ≤ 100000) (hN : N ≤ w.heap.size) :
    Calls Tryz.prog 24 #[.pointer (some ⟨g, 0, none⟩), .agg (p.cs d n).toArray] w fun e w' => e = .returned (.tuple #[.int .i64 (Z.addN p), .int .i64 (Z.addE p)]) ∧ G1 N w' g (Z.add p) ∧ Below N w w' := by
  obtain ⟨⟨E, F, ⟨mp, mw, f, fw, H⟩, h2, h3⟩, h4⟩ := h
  refine (add_any (H.later b) p d n hp hpm (fun x hx hF => by have := H.lt x hF; omega) hlt hd hn).mono ?_
  rintro e w' ⟨rfl, E', F', k1, k2, k3, k4⟩
  refine ⟨rfl, ⟨⟨E', F', k1, fun x hx => ?_, fun x hx => ?_⟩, fun q hq => ?_⟩, k2.below hN (fun x hx => h2 x hx)⟩
  · rcases k3 x hx with e | e
    · exact h2 x e
    · omega
  · rcases k4 x hx with e | e
    · exact h3 x e
    · omega
  · unfold GZ.add at hq
    split at hq
    · rcases List.mem_append.1 hq with e | e
      · exact h4 q e
      · rw [List.mem_singleton.1 e]; exact hn
    · exact h4 q hq
theorem ready_1 (h : G1 N w g Z) (s : Int) (hs : wfi s) :
    Calls Tryz.prog 41 #[.pointer (some ⟨g, 0, none⟩), .int .i64 s] w fun e w' => ∃ v : Sv, e = .returned (.slice v.a v.n v.c) ∧ InsS w' v (rdy Z.l s) ∧ InE (fun x => w.heap.size ≤ x ∧ x < w'.heap.size) v ∧ Below w.heap.size w w' := by
  obtain ⟨⟨E, F, ⟨mp, mw, f, fw, H⟩, h2, h3⟩, h4⟩ := h
  refine (ready_any H s hs h4).mono ?_
  rintro e w' ⟨v, rfl, k1, k2, k3⟩
  obtain ⟨sv, e1, _, e3, e4⟩ := k1.ins (fun x hx => by
    unfold rdy ids at hx
    obtain ⟨p, hp, rfl⟩ := List.mem_map.1 hx
    exact (H.ok.wfp (wtP_mem.1 (rdS_sub _ _ [] p hp)).1).i) k2
  subst e1
  exact ⟨sv, rfl, e3, e4, k3⟩
theorem write_1 (h : G1 N w0 g Z) (b : Below w0.heap.size w0 w) {s : Sv} {l : List Int} (hs : InsS w s l) (he : InE (fun x => w0.heap.size ≤ x) s) (hl : l.length ≤ 100000) (hN : N ≤ w.heap.size) :
    Calls Tryz.prog 26 #[.pointer (some ⟨g, 0, none⟩), .slice s.a s.n s.c] w fun e w' => e = .returned (.int .i64 (Z.wrE l)) ∧ G1 N w' g (Z.wr l) ∧ Below N w w' := by
  obtain ⟨⟨E, F, h1, h2, h3⟩, h4⟩ := h
  refine (write_any (h1.later b) hs he (fun x hx hF => by obtain ⟨mp, mw, f, fw, H⟩ := h1; have := H.lt x hF; omega) hl h4).mono ?_
  rintro e w' ⟨rfl, k1, k2⟩
  exact ⟨rfl, ⟨⟨E, F, k1, h2, h3⟩, wr_needs l h4⟩, k2.below hN h2⟩
theorem stl_needs {q : Pt → Bool} (h : ∀ p ∈ Z.l, p.needs.length ≤ 100000) : ∀ p ∈ (Z.stl q).l, p.needs.length ≤ 100000 := fun p hp => h p (List.mem_filter.1 hp).1
theorem settleAll_1 (h : G1 N w g Z) (hN : N ≤ w.heap.size) :
    Calls Tryz.prog 42 #[.pointer (some ⟨g, 0, none⟩)] w fun e w' => e = .returned (.int .i64 (Z.stlN fun _ => true)) ∧ G1 N w' g (Z.stl fun _ => true) ∧ Below N w w' := by
  obtain ⟨⟨E, F, ⟨mp, mw, f, fw, H⟩, h2, h3⟩, h4⟩ := h
  refine (settleAll_any H).mono ?_
  rintro e w' ⟨rfl, k1, k2⟩
  exact ⟨rfl, ⟨⟨E, F, k1, h2, h3⟩, stl_needs h4⟩, k2.below hN h2⟩
theorem all_1 (h : G1 N w g Z) :
    Calls Tryz.prog 13 #[.pointer (some ⟨g, 0, none⟩)] w fun e w' => ∃ v : Sv, e = .returned (.slice v.a v.n v.c) ∧ InsS w' v (ids Z.l) ∧ InE (fun x => w.heap.size ≤ x ∧ x < w'.heap.size) v ∧ Below w.heap.size w w' := by
  obtain ⟨⟨E, F, ⟨mp, mw, f, fw, H⟩, h2, h3⟩, h4⟩ := h
  refine (all_any H).mono ?_
  rintro e w' ⟨v, rfl, k1, k2, k3⟩
  have e0 : thP Z.l (fun _ => true) = Z.l := List.filter_eq_self.2 (fun _ _ => rfl)
  rw [e0] at k1
  obtain ⟨sv, e1, _, e3, e4⟩ := k1.ins (fun x hx => by
    obtain ⟨p, hp, rfl⟩ := List.mem_map.1 hx
    exact (H.ok.wfp hp).i) k2
  subst e1
  exact ⟨sv, rfl, e3, e4, k3⟩
end
end Go.Proofs.YtdfifneikmlmoaaGreat
