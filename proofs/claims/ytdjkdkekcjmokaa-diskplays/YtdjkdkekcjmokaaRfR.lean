/-
  What an act leaves that loads the image as it is: no statement is proved here.
-/
import Derived.Test.YtdjkdkekcjmokaaRfQ
namespace Go.Proofs.Ytdjkdkekcjmokaa
open Go.ChangeShapes Go.WideShapes Go.ChangeAt Go.RowKit
set_option linter.unusedVariables false

/-- Behind both Loads: of slices that lie outside, and read as l. -/
theorem Bth.loaded {w w0 w1 w2 : World} {g pg y q k : Nat} {S : DS} {p : PS} {F R : Nat → Prop} (h : Bth w0 g pg y q S p F R k) (s : Stp (fun _ => False) w w0) (l : List Blk) (d1 : Disk w1 g (.pointer (some ⟨pg, 0, none⟩)) (S.load l) F) (k1 : Stp F w0 w1) (r2 : RD w2 y q (S.load l) R) (k2 : Stp R w1 w2) : Done w w2 g pg y q k F R := by
  have k1' : Stp (fun x => F x ∨ x = pg) w0 w1 := k1.mono (fun x hx => .inl (.inl hx))
  have D1 : DD w1 g (.pointer (some ⟨pg, 0, none⟩)) (S.load l) (some p) F (fun x => x = pg) := ⟨d1, h.d.s.step k1 (fun x hx hf => h.d.fg x hf hx), h.d.fg, fun x hx => Nat.lt_of_lt_of_le (h.d.gl x hx) k1.size⟩
  exact Done.before ⟨_, _, _, _, h.both D1 k1' (Grew.refl _ _ _) r2 ((h.mid k1').2.stp k2 h.rq) (k2.mono (fun x hx => .inl (.inl hx))) (Grew.refl _ _ _) h.ok.more (wt_load h.wt _)⟩ s

/-- The image and its copy. -/
theorem copied {wA w1 w3 : World} {g3 gg cap n : Nat} {l : List Blk} (hl : l.length = n) (b1 : Below wA.heap.size wA w1) (l1 : wA.heap.size ≤ g3) (l2 : g3 < w1.heap.size) (o1 : w1.ownsRow 0 36 64 (.slice (some ⟨g3, 0, none⟩) n n) n (flat l))
    (o3 : w3.ownsRow 0 36 64 (.slice (some ⟨gg, 0, none⟩) (0 + n) cap) (0 + n) ([] ++ flat l)) (gr : (w1.alloc (.cells #[] 36)).grownBy w3 (Value.slice (some ⟨w1.heap.size, 0, none⟩) 0 0).ownBlock) (at3 : (Value.slice (some ⟨w1.heap.size, 0, none⟩) 0 0).ownBlock = some gg ∨ gg = w1.heap.size + 1) :
    Stp (fun _ => False) wA w3 ∧ Bls w3 (some ⟨g3, 0, none⟩) n n l ∧ Bls w3 (some ⟨gg, 0, none⟩) n cap l ∧ w1.heap.size ≤ gg := by
  have hz := b1.size
  have sg : Stp (fun x => x = w1.heap.size) w1 w3 := (Stp.of_alloc w1 _ _).trans (Stp.of_grown gr (fun x hx => .inl (by simp [Value.ownBlock] at hx; exact hx.symm)))
  rw [Nat.zero_add, List.nil_append] at o3
  refine ⟨(Stp.of_below b1 _).next sg (fun x hx => .inr (by omega)), (Bls.own o1 hl).step sg (fun x e hx => ?_), Bls.own o3 hl, ?_⟩
  · injection e with e; subst e; simp at hx; omega
  · rcases at3 with e | e
    · simp [Value.ownBlock] at e; omega
    · omega

set_option maxRecDepth 100000 in
set_option maxHeartbeats 1000000 in
theorem do_load_out {w : World} {g pg y q k : Nat} {S : DS} {p : PS} {F R : Nat → Prop} (h : Bth w g pg y q S p F R k) (hk : k ≤ 100) (x : AC) (ht : x.t < 0 ∨ (S.n : Int) < x.t) (hc : among x.d 11 = 10) :
    Calls Try.prog 8 #[.pointer (some ⟨g, 0, none⟩), .pointer (some ⟨y, 0, none⟩), .pointer (some ⟨pg, 0, none⟩), .pointer (some ⟨q, 0, none⟩), .agg x.cs.toArray] w fun e w' => e = .returned (.bool true) ∧ Done w w' g pg y q k F R := by
  have sA : Stp (fun _ => False) w (w.alloc (.cells x.cs.toArray 39)) := Stp.of_alloc _ _ _
  have hA := h.step sA (fun _ _ => id)
  have hr : (w.alloc (.cells x.cs.toArray 39)).rangeAt w.heap.size 0 x.cs := made_range w _ _
  have c1 := AC.c1 hr
  have c2 := AC.c2 hr
  have hlt := h.lt
  have hz := sA.size
  have n1 := h.d.d.ok.n1
  have n2 := h.d.d.ok.n2
  obtain ⟨ie, hie, hiz, hisz, hiby⟩ := info_parts info36
  have b0 := build0
  clear h hr
  have ht0 : (decide (0 ≤ x.t) && decide (x.t < (S.n : Int))) = false := by rcases ht with h | h <;> simp <;> omega
  have ht1 : ¬ x.t = (S.n : Int) := by omega
  go_enter Try.func8, Try.ntmps8
  go_wp2_with (first
    | (go_at_call 17; refine (among_any x.d 11 _ (by decide) (by decide)).mono ?_; rintro e u ⟨rfl, rfl⟩; rw [hc])
    | (go_at_call 15; refine (image_any hA.d.d).mono ?_; rintro e w1 ⟨g3, rfl, b1, l1, l2, o1⟩; have c2' := (Stp.of_below b1 (fun _ => False)).cell c2 id; have hB1 := (Bls.own o1 (img_len S)).step (Stp.of_alloc w1 (.cells #[] 36) (fun _ => False)) (fun _ _ => id))
    | (at_builtin; refine wpList_append_lies _ rfl _ _ 41 rfl 0 36 ie _ 64 64 u41 hie hiz hisz hiby (by rfl) (by omega) (.slice (some ⟨w1.heap.size, 0, none⟩) 0 0) 0 [] (by rfl) (own0 w1) ⟨g3, 0, none⟩ S.n S.n (flat (img S)) (by rfl) (by rw [flat_len, img_len]) (fun j u hj => hB1.news j u hj) (flat_one _) (by omega) (by unfold maxLen; omega) (by omega) (Nat.zero_le _) (w1.heap.size + 1) (by simp) ?_; intro gg cap w3 o3 gr3 at3 lt3; obtain ⟨s3, B3, Bg, lg⟩ := copied (img_len S) b1 l1 l2 o1 o3 gr3 at3; have c2'' := s3.cell c2 id; have h3 := hA.step s3 (fun _ _ => id); rw [Nat.zero_add])
    | (go_at_call 29; refine (load_any h3.d.d B3 (fun z _ e hz' => by injection e with e; subst e; have := hlt _ (.inl hz'); simp at this; omega)).mono ?_; rintro e w4 ⟨rfl, d4, k4⟩)
    | (go_at_call 30; refine (rload_any (h3.mid (k4.mono (fun x hx => .inl (.inl hx)))).1 (Bg.step k4 (fun z e hz' => by injection e with e; subst e; have := hlt _ (.inl hz'); simp at this; omega)) (fun z _ e hz' => by injection e with e; subst e; have := hlt _ (.inr (.inl hz')); simp at this; omega)).mono ?_; rintro e w5 ⟨rfl, r5, k5⟩))
  all_goals
    have D := Bth.loaded h3 (sA.trans s3) _ d4 k4 r5 k5
    go_returns
    exact ⟨rfl, D⟩
end Go.Proofs.Ytdjkdkekcjmokaa
