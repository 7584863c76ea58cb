/-
  What an act leaves that crashes: no statement is proved here.
-/
import Derived.Test.YtdjkdkekcjmokaaRfN
namespace Go.Proofs.Ytdjkdkekcjmokaa
open Go.ChangeShapes Go.WideShapes Go.ChangeAt Go.RowKit
set_option linter.unusedVariables false

set_option maxRecDepth 100000 in
theorem do_crash {w : World} {g pg y q k : Nat} {S : DS} {p : PS} {F R : Nat → Prop} (h : Bth w g pg y q S p F R k) (hk : k ≤ 100) (x : AC) (hx : x.ok w) (hnil : x.ka = none → x.kc = 0) (hb : x.kn * 8 ≤ 140737488355328)
    (hK : ∀ z : Addr, 0 < x.kn → x.ka = some z → ¬ Foot pg q F R z.block) (hc : among x.d 11 = 7) :
    Calls Try.prog 8 #[.pointer (some ⟨g, 0, none⟩), .pointer (some ⟨y, 0, none⟩), .pointer (some ⟨pg, 0, none⟩), .pointer (some ⟨q, 0, none⟩), .agg x.cs.toArray] w fun e w' => e = .returned (.bool true) ∧ Done w w' g pg y q k F R := by
  have sA : Stp (fun _ => False) w (w.alloc (.cells x.cs.toArray 39)) := Stp.of_alloc _ _ _
  have hA := h.step sA (fun _ _ => id)
  have hr : (w.alloc (.cells x.cs.toArray 39)).rangeAt w.heap.size 0 x.cs := made_range w _ _
  have c1 := AC.c1 hr
  have c4 := AC.c4 hr
  have hI := hx.k.step sA (fun _ _ _ => id)
  have hlt := h.lt
  have hF : ∀ x, F x → x < w.heap.size := fun x hx => hlt x (.inl hx)
  have hpl : pg < w.heap.size := hlt pg (.inr (.inr (.inl rfl)))
  have hz := sA.size
  clear h hlt
  go_enter Try.func8, Try.ntmps8
  go_wp2_with (first
    | (go_at_call 17; refine (among_any x.d 11 _ (by decide) (by decide)).mono ?_; rintro e u ⟨rfl, rfl⟩; rw [hc])
    | (go_at_call 23; refine (ints_any x.ka x.kn x.kc x.kl _ hI hnil hb).mono ?_; rintro e w1 ⟨a', c', rfl, I1, b1, n1⟩))
  have s1 : Stp (fun _ => False) (w.alloc (.cells x.cs.toArray 39)) w1 := Stp.of_below b1 _
  have h1 := hA.step s1 (fun _ _ => id)
  have hI1 := hI.step s1 (fun _ _ _ => id)
  have c4' := s1.cell c4 id
  refine (crash_any h1.d.d (fun j => by have := h1.wt j; omega) I1 (fun z h0 e hz' => by have := hF _ hz'; have := n1 z h0 e; omega)).mono ?_
  rintro e w2 ⟨rfl, d2, k2⟩
  have c4'' := k2.cell c4' (fun e => by have := hF _ e; simp at this)
  have k2' : Stp (fun x => F x ∨ x = pg) w1 w2 := k2.mono (fun x hx => .inl (.inl hx))
  have D2 : DD w2 g (.pointer (some ⟨pg, 0, none⟩)) (S.crash x.kl) (some p) F (fun x => x = pg) := ⟨d2, h1.d.s.step k2 (fun x hx hf => h1.d.fg x hf hx), h1.d.fg, fun x hx => Nat.lt_of_lt_of_le (h1.d.gl x hx) k2.size⟩
  have M2 := h1.mid k2'
  have hI2 := hI1.step k2 (fun z h0 e hf => hK z h0 e (.inl hf))
  go_wp2_with (first
    | (go_at_call 24; refine (rcrash_any M2.1 (fun j => by have := h1.wt j; omega) hI2 (fun z h0 e hr => hK z h0 e (.inr (.inl hr)))).mono ?_; rintro e w3 ⟨rfl, r3, k3⟩))
  have D : Done w w3 g pg y q k F R := Done.before ⟨_, _, _, _, h1.both D2 k2' (Grew.refl _ _ _) r3 (M2.2.stp k3 h1.rq) (k3.mono (fun x hx => .inl (.inl hx))) (Grew.refl _ _ _) h1.ok.more (wt_crash _ _ _)⟩ (sA.trans s1)
  go_returns
  exact ⟨rfl, D⟩
end Go.Proofs.Ytdjkdkekcjmokaa
