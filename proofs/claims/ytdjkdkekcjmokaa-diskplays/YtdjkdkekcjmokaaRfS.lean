/-
  What an act leaves that loads the image with another block: no statement is proved here.
-/
import Derived.Test.YtdjkdkekcjmokaaRfR
namespace Go.Proofs.Ytdjkdkekcjmokaa
open Go.ChangeShapes Go.WideShapes Go.ChangeAt Go.RowKit
set_option linter.unusedVariables false

theorem row_there {w : World} {g : Nat} {cur : Array Value} {t : TypeId} (hb : w.heap[g]? = some (.cells cur t (0, 0))) (o n : Nat) (h : o + n ≤ cur.size) : w.there g o n := fun j hj => by
  refine ⟨?_, ?_⟩
  · rw [cell_of_row w g (o + j) cur _ (0, 0) hb, Array.getElem?_eq_getElem (by omega)]; rfl
  · simp [World.frozen?, hb]
/-- Another block at m. -/
theorem own_set {w : World} {g n m : Nat} {l : List Blk} (ho : w.ownsRow 0 36 64 (.slice (some ⟨g, 0, none⟩) n n) n (flat l)) (hl : l.length = n) (hm : m < n) (hn : n ≤ 100000) (b : Blk) :
    w.there g (m * 64) 64 ∧ (w.setCells g (m * 64) b.cs).ownsRow 0 36 64 (.slice (some ⟨g, 0, none⟩) n n) n (flat (l.set m b)) := by
  have hB := Bls.own ho hl
  rcases ho.2 with ⟨e, _⟩ | ⟨g', cap, cur, e, _, hg, h1, h2, h3, h4⟩
  · injection e with e; cases e
  · injection e with e e2 e3
    injection e with e; injection e with e
    subst e3 e
    have th : ∀ j, j < n → w.there g (j * 64) 64 := fun j hj => row_there hg _ _ (by omega)
    obtain ⟨cur', c1, c2⟩ := row_setCells hg b.cs (m * 64)
    refine ⟨th m hm, own_of_ranges c1 (by omega) (by simpa using hl) hn (fun j hj => ?_)⟩
    by_cases e : j = m
    · subst e
      have e2 : (l.set j b).getD j Blk.zero = b := by simp [List.getD_eq_getElem?_getD, hl, hj]
      rw [e2]
      exact World.rangeAt_setCells_same w g (j * 64) b.cs (by rw [b.cs_len]; exact th j hj)
    · have e2 : (l.set m b).getD j Blk.zero = l.getD j Blk.zero := by simp [List.getD_eq_getElem?_getD, Ne.symm e]
      rw [e2]
      obtain ⟨b', o', ea, hr⟩ := hB.cell (by omega)
      injection ea with ea; injection ea with ea eo; subst ea eo
      have := hr j hj
      rw [Nat.zero_add] at this
      exact World.rangeAt_setCells_apart this g (m * 64) b.cs (.inr (by rw [b.cs_len, Blk.cs_len]; omega))

set_option maxRecDepth 100000 in
set_option maxHeartbeats 1000000 in
theorem do_load_in {w : World} {g pg y q k : Nat} {S : DS} {p : PS} {F R : Nat → Prop} (h : Bth w g pg y q S p F R k) (hk : k ≤ 100) (x : AC) (m : Nat) (hm : m < S.n) (ht : x.t = m) (hc : among x.d 11 = 10) :
    Calls Try.prog 8 #[.pointer (some ⟨g, 0, none⟩), .pointer (some ⟨y, 0, none⟩), .pointer (some ⟨pg, 0, none⟩), .pointer (some ⟨q, 0, none⟩), .agg x.cs.toArray] w fun e w' => e = .returned (.bool true) ∧ Done w w' g pg y q k F R := by
  have sA : Stp (fun _ => False) w (w.alloc (.cells x.cs.toArray 39)) := Stp.of_alloc _ _ _
  have hA := h.step sA (fun _ _ => id)
  have hr : (w.alloc (.cells x.cs.toArray 39)).rangeAt w.heap.size 0 x.cs := made_range w _ _
  have c1 := AC.c1 hr
  have c2 := AC.c2 hr
  have c3 := AC.c3 hr
  have hlt := h.lt
  have hz := sA.size
  have n1 := h.d.d.ok.n1
  have n2 := h.d.d.ok.n2
  obtain ⟨ie, hie, hiz, hisz, hiby⟩ := info_parts info36
  have b0 := build0
  clear h hr
  rw [ht] at c2
  have i1 : (0 : Int) ≤ (m : Int) := by omega
  have i2 : (m : Int) < (S.n : Int) := by omega
  have i3 : ¬ (m : Int) = (S.n : Int) := by omega
  have il : ((img S).set m x.b).length = S.n := by rw [List.length_set, img_len]
  go_enter Try.func8, Try.ntmps8
  go_wp2_with (first
    | (go_at_call 17; refine (among_any x.d 11 _ (by decide) (by decide)).mono ?_; rintro e u ⟨rfl, rfl⟩; rw [hc])
    | (go_at_call 15; refine (image_any hA.d.d).mono ?_; rintro e w0 ⟨g3, rfl, b0', l1, l20, o0⟩; have c2' := (Stp.of_below b0' (fun _ => False)).cell c2 id; have c3' := (Stp.of_below b0' (fun _ => False)).range c3 id; obtain ⟨th, o1⟩ := own_set o0 (img_len S) hm (by omega) x.b)
    | (refine at_load (by rfl) _ (by rfl) w.heap.size 2 (by rfl) x.b (by simpa using c3') ?_)
    | (refine at_store (by rfl) _ _ (by rfl) g3 (m * 64) (by rfl) x.b (by rfl) th ?_; have b1 : Below (w.alloc (.cells x.cs.toArray 39)).heap.size (w.alloc (.cells x.cs.toArray 39)) (w0.setCells g3 (m * 64) x.b.cs) := ((Stp.of_below b0' (fun x => x = g3)).trans (Stp.of_setCells w0 g3 (m * 64) x.b.cs (.inl rfl))).below (Nat.le_refl _) (fun y hy => by omega); have l2 : g3 < (w0.setCells g3 (m * 64) x.b.cs).heap.size := Nat.lt_of_lt_of_le l20 (Stp.of_setCells w0 g3 (m * 64) x.b.cs (F := fun x => x = g3) (.inl rfl)).size; clear b0' l20 o0 th c2' c3'; generalize w0.setCells g3 (m * 64) x.b.cs = w1 at *; have c2' := (Stp.of_below b1 (fun _ => False)).cell c2 id; have hB1 := (Bls.own o1 il).step (Stp.of_alloc w1 (.cells #[] 36) (fun _ => False)) (fun _ _ => id))
    | (at_builtin; refine wpList_append_lies _ rfl _ _ 41 rfl 0 36 ie _ 64 64 u41 hie hiz hisz hiby (by rfl) (by omega) (.slice (some ⟨w1.heap.size, 0, none⟩) 0 0) 0 [] (by rfl) (own0 w1) ⟨g3, 0, none⟩ S.n S.n (flat ((img S).set m x.b)) (by rfl) (by rw [flat_len, il]) (fun j u hj => hB1.news j u hj) (flat_one _) (by omega) (by unfold maxLen; omega) (by omega) (Nat.zero_le _) (w1.heap.size + 1) (by simp) ?_; intro gg cap w3 o3 gr3 at3 lt3; obtain ⟨s3, B3, Bg, lg⟩ := copied il b1 l1 l2 o1 o3 gr3 at3; have c2'' := s3.cell c2 id; have h3 := hA.step s3 (fun _ _ => id); rw [Nat.zero_add])
    | (go_at_call 29; refine (load_any h3.d.d B3 (fun z _ e hz' => by injection e with e; subst e; have := hlt _ (.inl hz'); simp at this; omega)).mono ?_; rintro e w4 ⟨rfl, d4, k4⟩)
    | (go_at_call 30; refine (rload_any (h3.mid (k4.mono (fun x hx => .inl (.inl hx)))).1 (Bg.step k4 (fun z e hz' => by injection e with e; subst e; have := hlt _ (.inl hz'); simp at this; omega)) (fun z _ e hz' => by injection e with e; subst e; have := hlt _ (.inr (.inl hz')); simp at this; omega)).mono ?_; rintro e w5 ⟨rfl, r5, k5⟩))
  all_goals
    have D := Bth.loaded h3 (sA.trans s3) _ d4 k4 r5 k5
    go_returns
    exact ⟨rfl, D⟩
end Go.Proofs.Ytdjkdkekcjmokaa
