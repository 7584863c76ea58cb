/-
  Acts that came in, and an array of slices of blocks: no statement is proved here.
-/
import Derived.Test.YtecedklfdmbnpaaDskH
import Derived.Test.YtecedklfdmbnpaaBaseA
import Derived.Deep.RegionLaw
namespace Go.Proofs.Ytecedklfdmbnpaa
open Go.ChangeShapes Go.WideShapes Go.ChangeAt Go.RowKit
set_option linter.unusedVariables false

/-- A slice of acts. -/
structure Acs (w : World) (a : Option Addr) (n c : Nat) (l : List AC) : Prop where
  len : l.length = n
  le : n ≤ c
  cap : c ≤ maxLen
  cell : 0 < n → ∃ b o, a = some ⟨b, o, none⟩ ∧ ∀ i, i < n → ∃ x : AC, l[i]? = some x ∧ w.rangeAt b (o + i * 67) x.cs ∧ x.ok w
theorem AC.ok.later {x : AC} {w w' : World} (h : x.ok w) (hb : Below w.heap.size w w') : x.ok w' := ⟨h.d, h.t, h.k.step (Stp.of_below hb (fun _ => False)) (fun _ _ _ => id), h.z⟩
theorem Acs.later {w w' : World} {a : Option Addr} {n c : Nat} {l : List AC} (h : Acs w a n c l) (hb : Below w.heap.size w w') : Acs w' a n c l :=
  ⟨h.len, h.le, h.cap, fun hn => by
    obtain ⟨b, o, e, hc⟩ := h.cell hn
    refine ⟨b, o, e, fun i hi => ?_⟩
    obtain ⟨x, e1, e2, e3⟩ := hc i hi
    exact ⟨x, e1, (Stp.of_below hb (fun _ => False)).range e2 id, e3.later hb⟩⟩
theorem Acs.lt {w : World} {b o n c : Nat} {l : List AC} (h : Acs w (some ⟨b, o, none⟩) n c l) (hn : 0 < n) : b < w.heap.size := by
  obtain ⟨b', o', e, hc⟩ := h.cell hn
  injection e with e; injection e with e _; subst e
  obtain ⟨x, _, h2, _⟩ := hc 0 hn
  exact World.block_lt_of_cell? w _ (AC.c1 h2)
section
variable {H : Type} {enc : TypeId × Value → H} {w : World} {base : Nat} {spare : Nat → Bool} {held : Bool}
end

/-- An array of 8 slices of blocks at h: the slice at j is 'v j' and reads as 'L j'; E: its blocks. -/
structure Sh (w : World) (h : Nat) (L : Nat → List Blk) (v : Nat → Value) (E : Nat → Prop) : Prop where
  c : ∀ j, j < 8 → w.cell? ⟨h, j, none⟩ = some (v j)
  z : ∀ j, j < 8 → w.frozen? ⟨h, j, none⟩ = false
  row : ∀ j, j < 8 → ∃ a c, v j = .slice a (L j).length c ∧ w.ownsRow 0 42 64 (.slice a (L j).length c) (L j).length (flat (L j))
  blk : ∀ j r, j < 8 → (v j).ownBlock = some r → E r ∧ r ≠ h
  apart : ∀ j j' r, j < 8 → j' < 8 → (v j).ownBlock = some r → (v j').ownBlock = some r → j = j'
  eh : E h
  lt : ∀ x, E x → x < w.heap.size
theorem own_stepV {B : Nat → Prop} {w w' : World} {v : Value} {n : Nat} {xs : List Value} (h : w.ownsRow 0 42 64 v n xs) (k : Stp B w w') (hB : ∀ r, v.ownBlock = some r → ¬ B r) : w'.ownsRow 0 42 64 v n xs := by
  refine ⟨h.1, ?_⟩
  rcases h.2 with h2 | ⟨g', cap, cur, e2, e3, e4, e5⟩
  · exact .inl h2
  · refine .inr ⟨g', cap, cur, e2, e3, ?_, e5⟩
    rw [k.block g' (Array.getElem?_eq_some_iff.1 e4).1 (hB g' (by rw [e2]; rfl))]; exact e4
theorem Sh.step {B E : Nat → Prop} {w w' : World} {h : Nat} {L : Nat → List Blk} {v : Nat → Value} (s : Sh w h L v E) (k : Stp B w w') (hB : ∀ x, E x → ¬ B x) : Sh w' h L v E :=
  ⟨fun j hj => k.cell (s.c j hj) (hB h s.eh), fun j hj => by rw [k.frozen (p := ⟨h, j, none⟩) (s.lt h s.eh) (hB h s.eh)]; exact s.z j hj,
   fun j hj => by obtain ⟨a, c, e1, e2⟩ := s.row j hj; exact ⟨a, c, e1, own_stepV e2 k (fun r hr => hB r (s.blk j r hj (by rw [e1]; exact hr)).1)⟩,
   s.blk, s.apart, s.eh, fun x hx => Nat.lt_of_lt_of_le (s.lt x hx) k.size⟩
/-- The slice at m is another now: its row is the old one's, or has come. -/
theorem Sh.put {E : Nat → Prop} {w w' : World} {h m gg cap n : Nat} {L : Nat → List Blk} {v : Nat → Value} {l : List Blk} (s : Sh w h L v E) (hm : m < 8) (k : Stp (fun x => (v m).ownBlock = some x) w w')
    (ho : w'.ownsRow 0 42 64 (.slice (some ⟨gg, 0, none⟩) n cap) n (flat l)) (hn : l.length = n) (hat : (v m).ownBlock = some gg ∨ w.heap.size ≤ gg) (hlt : gg < w'.heap.size) :
    Sh (w'.setCell ⟨h, m, none⟩ (.slice (some ⟨gg, 0, none⟩) n cap)) h (fun j => if j = m then l else L j) (fun j => if j = m then .slice (some ⟨gg, 0, none⟩) n cap else v j) (fun x => E x ∨ x = gg) := by
  have hh : ¬ (v m).ownBlock = some h := fun e => (s.blk m h hm e).2 rfl
  have hgh : gg ≠ h := fun e => by rcases hat with e1 | e1; exact hh (e ▸ e1); have := s.lt h s.eh; omega
  have kc : Stp (fun x => x = h) w' (w'.setCell ⟨h, m, none⟩ (.slice (some ⟨gg, 0, none⟩) n cap)) := (Stp.refl (fun x => x = h) w').setCell (p := ⟨h, m, none⟩) (.inl rfl) _
  have far : ∀ j, j < 8 → j ≠ m → (v j).ownBlock = some gg → False := fun j hj hne e => by
    rcases hat with e1 | e1
    · exact hne (s.apart j m gg hj hm e e1)
    · have := s.lt gg (s.blk j gg hj e).1; omega
  refine ⟨fun j hj => ?_, fun j hj => ?_, fun j hj => ?_, fun j r hj e => ?_, fun j j' r hj hj' e1 e2 => ?_, .inl s.eh, fun x hx => ?_⟩
  · by_cases e : j = m
    · subst e; simp only [if_true]; exact World.cell?_setCell_same _ _ _ (k.cell (s.c j hj) hh)
    · simp only [if_neg e]; rw [World.cell?_setCell_other _ _ _ _ (fun e' => e (by injection e' with _ e'; exact e'.symm))]; exact k.cell (s.c j hj) hh
  · have := s.z j hj; rw [← k.frozen (p := ⟨h, j, none⟩) (s.lt h s.eh) hh] at this; simpa using this
  · by_cases e : j = m
    · subst e; simp only [if_true]; exact ⟨_, cap, by rw [hn], by rw [hn]; exact own_stepV ho kc (fun r hr e => hgh (by rw [← e]; simpa [Value.ownBlock] using hr))⟩
    · simp only [if_neg e]
      obtain ⟨a, c, e1, e2⟩ := s.row j hj
      refine ⟨a, c, e1, own_stepV (own_stepV e2 k (fun r hr e3 => ?_)) kc (fun r hr e3 => ?_)⟩
      · rw [← e1] at hr; exact e (s.apart j m r hj hm hr e3)
      · rw [← e1] at hr; exact (s.blk j r hj hr).2 e3
  · by_cases em : j = m
    · simp only [em, if_true, Value.ownBlock, Option.some.injEq] at e
      exact ⟨.inr e.symm, e ▸ hgh⟩
    · simp only [if_neg em] at e; exact ⟨.inl (s.blk j r hj e).1, (s.blk j r hj e).2⟩
  · by_cases n1 : j = m
    · by_cases n2 : j' = m
      · rw [n1, n2]
      · simp only [n1, if_true, Value.ownBlock, Option.some.injEq] at e1; simp only [if_neg n2] at e2; exact (far j' hj' n2 (e1 ▸ e2)).elim
    · by_cases n2 : j' = m
      · simp only [n2, if_true, Value.ownBlock, Option.some.injEq] at e2; simp only [if_neg n1] at e1; exact (far j hj n1 (e2 ▸ e1)).elim
      · simp only [if_neg n1] at e1; simp only [if_neg n2] at e2; exact s.apart j j' r hj hj' e1 e2
  · rcases hx with hx | hx
    · have := s.lt x hx; have := k.size; have := kc.size; omega
    · subst hx; exact Nat.lt_of_lt_of_le hlt kc.size
theorem Sh.bls {E : Nat → Prop} {w : World} {h : Nat} {L : Nat → List Blk} {v : Nat → Value} (s : Sh w h L v E) {j : Nat} (hj : j < 8) : ∃ a c, v j = .slice a (L j).length c ∧ Bls w a (L j).length c (L j) := by
  obtain ⟨a, c, e1, e2⟩ := s.row j hj
  refine ⟨a, c, e1, ?_⟩
  rcases e2.2 with ⟨e3, e4⟩ | ⟨g, cap, cur, e3, _⟩
  · injection e3 with e3 _ e5; subst e3; subst e5
    have : L j = [] := List.eq_nil_of_length_eq_zero e4
    rw [this]; exact Bls.nilSlice w
  · injection e3 with e3 _ e5; subst e3; exact Bls.own e2 rfl
end Go.Proofs.Ytecedklfdmbnpaa
