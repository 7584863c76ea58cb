/-
  Disks that came in; and that the fixed whole of layer 8 works: no statement is proved here.
-/
import Derived.Test.YtjbgcbokffaemaaSupO
import Derived.Test.YtjbgcbokffaemaaSealK
import Derived.Deep.Matrix
namespace Go.Proofs.Ytjbgcbokffaemaa
open Go.ChangeShapes Go.WideShapes Go.ChangeAt Go.RowKit
set_option linter.unusedVariables false

section
variable {H : Type} {enc : TypeId × Value → H} {w : World} {base : Nat} {spare : Nat → Bool} {held : Bool}
theorem bls_of_trod {fuel : Nat} {cs : List Value} {x : DataW H × List MemPlace} (h : DataW.trod enc Try.prog w base spare held fuel 39 cs = some x) : ∃ a n c l, cs = [.slice a n c] ∧ Bls w a n c l := by
  rcases Deep.open_slice (e := 32) (by kernel_rfl) h with ⟨hcs, _⟩ | ⟨a, len, cap, m, n, D, Pl, hcs, _, hl, hm, hmm, _, hx⟩
  · exact ⟨_, _, _, [], hcs, Bls.nilSlice w⟩
  · have c64 : Try.prog.cellsOf 32 = 64 := by kernel_rfl
    have hlm : len ≤ m := by rw [hmm]; split <;> omega
    have each : ∀ i, i < len → ∃ y : Blk, ∀ j v, y.cs[j]? = some v → w.cell? (a.add (i * 64 + j)) = some v := fun i hi => by
      obtain ⟨cs', h1, h2⟩ := hx i (by omega)
      rw [c64] at h1
      obtain ⟨y, e1⟩ := blkOfTrod h2
      obtain ⟨_, hlen, hcell⟩ := World.cells?_some h1
      refine ⟨y, fun j v hv => ?_⟩
      have hj : j < 64 := by have := (List.getElem?_eq_some_iff.1 hv).1; rw [y.cs_len] at this; exact this
      have := hcell j hj
      rw [Deep.add_add, ← e1, hv] at this
      exact this
    refine ⟨_, _, _, (List.range len).map fun i => if hi : i < len then Classical.choose (each i hi) else Blk.zero, hcs, by simp, hl, hm, (fun e => by cases e), fun hn => ?_⟩
    obtain ⟨b, o, spot⟩ := a
    have hspot : spot = none := by
      obtain ⟨y, hy⟩ := each 0 hn
      have := hy 0 _ (List.getElem?_eq_getElem (by rw [y.cs_len]; omega))
      simpa [Addr.add] using World.cell?_spot this
    subst hspot
    refine ⟨b, o, rfl, fun i hi => ?_⟩
    rw [List.getD_eq_getElem?_getD, List.getElem?_map, List.getElem?_range hi]
    simp only [Option.map_some, Option.getD_some, dif_pos hi]
    have hs := Classical.choose_spec (each i hi)
    intro j v hv
    have := hs j v hv
    rw [Addr.add_mid] at this
    rw [show o + i * 64 + j = o + (i * 64 + j) by omega]; exact this
end
def sEx : Gm := ⟨1, 1, 4⟩
theorem sEx_ok : sEx.ok := by unfold sEx Gm.ok; simp
theorem put_sEx (w : World) : Calls Try.prog 7 #[.agg #[.int .i64 1, .int .i64 1, .int .i64 4]] w fun e w' => e = .returned (.tuple #[.agg (ldP sEx).cs.toArray, .int .i64 0]) ∧ Below w.heap.size w w' := by
  have := sput_any sEx w
  rw [show sEx.err = 0 from if_pos sEx_ok, show spP sEx = ldP sEx from if_pos sEx_ok] at this
  exact this
theorem get_sEx (w : World) : Calls Try.prog 9 #[.agg (ldP sEx).cs.toArray] w fun e w' => e = .returned (.tuple #[.agg #[.int .i64 1, .int .i64 1, .int .i64 4], .int .i64 0]) ∧ Below w.heap.size w w' := by
  have := sget_any (ldP sEx) w
  rw [sgE_ldP sEx_ok, sgG_ldP sEx_ok] at this
  exact this
theorem find_zeros (a : Option Addr) (n c : Nat) (w : World) (h : Bls w a n c (List.replicate n Blk.zero)) : Calls Try.prog 15 #[.slice a n c] w fun e w' => e = .returned (.tuple #[gv Gm.zero, .int .i64 0, .int .i64 22]) ∧ Below w.heap.size w w' := by
  have := sfind_any a n c _ w h
  obtain ⟨e1, e2, e3⟩ := find_none (l := List.replicate n Blk.zero) (fun j _ => by rw [getD_replicate]; exact has_zero _)
  rw [e1, e2, e3] at this
  exact this
set_option maxRecDepth 100000 in
set_option maxHeartbeats 2000000 in
theorem sworks_any (w : World) : Calls Try.prog 13 #[] w fun e w' => e = .returned (.bool true) ∧ Below w.heap.size w w' := by
  have hlp := (ldP sEx).len
  have hput := put_sEx
  have hget := get_sEx
  generalize ldP sEx = p at *
  have t1 : True := trivial
  have t2 : True := trivial
  go_enter Try.func13, Try.ntmps13
  go_wp2_with (first
    | (have _t := t1; refine at_newG (by rfl) (by rfl) ?_; intro g1 w1 a1 z1 r1 b1; clear _t t1)
    | (have _t := t2; refine at_putG (by rfl) _ _ (by rfl) g1 (by rfl) ⟨1, 1, 4⟩ (by rfl) _ r1 ?_; intro w2 r2 s2; clear _t)
    | (have _t := t2; refine at_getG (by rfl) _ (by rfl) g1 (by rfl) ⟨1, 1, 4⟩ r2 ?_; clear _t)
    | (go_at_call 7; refine (hput _).mono ?_; rintro e w3 ⟨rfl, b3⟩)
    | (refine at_new 25 54 arrL (by rfl) (by rfl) ?_; intro g4 w4 a4 z4 r4 b4)
    | (refine at_put 25 54 arrL (by rfl) _ _ (by rfl) g4 (by rfl) p.l (by rfl) hlp _ r4 (by simp) ?_; intro w5 r5 s5
       have q5 : GR w5 g1 ⟨1, 1, 4⟩ := ((r2.later b3).later b4).step s5 (by have := r2.lt; have := b3.size; omega)
       have S5 : Stp (fun x => w.heap.size ≤ x) w w5 := (((Stp.of_below b1 _).next s2 (fun x hx => .inl (by subst hx; exact a1))).next (Stp.of_below (bnext b3 b4 (Nat.le_refl _)) (fun _ => False)) (fun _ h => h.elim)).next s5 (fun x hx => .inl (by subst hx; have := b1.size; have := s2.size; have := b3.size; omega))
       clear a1 z1 r1 b1 r2 s2 b3 a4 z4 r4 b4 s5)
    | (refine at_getL (by rfl) _ (by rfl) g4 (by rfl) p r5 ?_)
    | (go_at_call 9; refine (hget _).mono ?_; rintro e w6 ⟨rfl, b6⟩)
    | (have _t := t2; refine at_newG (by rfl) (by rfl) ?_; intro g7 w7 a7 z7 r7 b7; clear _t)
    | (have _t := t2; refine at_putG (by rfl) _ _ (by rfl) g7 (by rfl) ⟨1, 1, 4⟩ (by rfl) _ r7 ?_; intro w8 r8 s8; clear _t t2
       have q8 : GR w8 g1 ⟨1, 1, 4⟩ := ((q5.later b6).later b7).step s8 (by have := q5.lt; have := b6.size; omega)
       have S8 := (S5.next (Stp.of_below (bnext b6 b7 (Nat.le_refl _)) (fun _ => False)) (fun _ h => h.elim)).next s8 (fun x hx => .inl (by subst hx; have := S5.size; have := b6.size; omega))
       clear q5 S5 b6 a7 z7 r7 b7 s8)
    | (refine at_mkB (by rfl) _ (by rfl) 9 (by rfl) (by omega) ?_; intro g9 w9 a9 d9 b9)
    | (go_at_call 15; refine (find_zeros _ 9 9 _ d9.bls).mono ?_; rintro e w10 ⟨rfl, b10⟩)
    | (refine at_newG (by rfl) (by rfl) ?_; intro g11 w11 a11 z11 r11 b11)
    | (refine at_putG (by rfl) _ _ (by rfl) g11 (by rfl) Gm.zero (by rfl) _ r11 ?_; intro w12 r12 s12
       have B12 := bnext (bnext b9 b10 (Nat.le_refl _)) b11 (Nat.le_refl _)
       have q12 : GR w12 g1 ⟨1, 1, 4⟩ := (q8.later B12).step s12 (by have := q8.lt; have := b9.size; have := b10.size; omega)
       have p12 : GR w12 g7 ⟨1, 1, 4⟩ := (r8.later B12).step s12 (by have := r8.lt; have := b9.size; have := b10.size; omega)
       have S12 := (S8.next (Stp.of_below B12 (fun _ => False)) (fun _ h => h.elim)).next s12 (fun x hx => .inl (by subst hx; have := S8.size; have := b9.size; have := b10.size; omega))
       clear q8 r8 S8 b9 b10 b11 B12 a11 z11 r11 s12)
    | (refine at_getG (by rfl) _ (by rfl) g7 (by rfl) ⟨1, 1, 4⟩ p12 ?_)
    | (refine at_getG (by rfl) _ (by rfl) g1 (by rfl) ⟨1, 1, 4⟩ q12 ?_))
  go_returns
  exact ⟨rfl, S12.below (Nat.le_refl _) (fun _ h => h)⟩
end Go.Proofs.Ytjbgcbokffaemaa
