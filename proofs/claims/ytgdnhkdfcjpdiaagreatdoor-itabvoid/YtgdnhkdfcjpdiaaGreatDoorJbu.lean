/-
  Texts of my own, joined: no statement is proved here.
-/
import Derived.Laws.CopyOwn
import Derived.Test.YtgdnhkdfcjpdiaaGreatDoorJad
import Derived.Test.YtgdnhkdfcjpdiaaGreatDoorJav
import Derived.Test.YtgdnhkdfcjpdiaaGreatDoorJaz
set_option linter.unusedSimpArgs false
set_option linter.unusedVariables false
namespace Go.Proofs.YtgdnhkdfcjpdiaaGreatDoor
open Go.ChangeShapes Go.WideShapes Go.ChangeAt Go.RowKit
def byts (l : List Int) : List UInt8 := l.map fun x => UInt8.ofNat x.toNat
theorem byts_len (l : List Int) : (byts l).length = l.length := by unfold byts; simp
def wBM (l : List UInt8) (n : Nat) (on : Bool) : List UInt8 := byts (putB (ints l) n on)
theorem wB_len (l : List UInt8) (n : Nat) (on : Bool) : (wBM l n on).length = l.length := by unfold wBM putB; rw [byts_len]; simp [ints_len]
abbrev grp (g : Int) : Prop := 0 ≤ g ∧ g < 8
def hL (g : Int) : Ld := if grp g then ⟨UInt8.ofNat g.toNat :: List.replicate 53 0, by simp⟩ else Ld.zero
def hE (g : Int) : Int := if grp g then 0 else 2
def hR (p : Ld) (g : Int) : Bool := decide (grp g ∧ p = hL g)
abbrev plc (k i : Int) : Prop := (k = 0 ∧ 0 ≤ i ∧ i < 128) ∨ (k = 4 ∧ 0 ≤ i ∧ i < 24)
def sA (k : Int) : Nat := if k = 4 then 16 else 0
def sZ (k : Int) : Nat := if k = 0 then 16 else if k = 4 then 3 else 0
def mE (k i : Int) : Int := if plc k i then 0 else 2
def pb (k i : Int) : Nat := 8 * sA k + i.toNat
def mW (p : Ld) (k i : Int) (on : Bool) : Ld := if plc k i then ⟨wBM p.l (pb k i) on, by rw [wB_len, p.len]⟩ else Ld.zero
def mS (p : Ld) (k : Int) : List UInt8 := (p.l.drop (sA k)).take (sZ k)
def mN (s : Gm) (k : Int) : Nat := if s.ok then (if k = 0 then s.d.toNat else if k = 4 then 3 * s.i.toNat else 0) else 0
def m1 (p : Ld) (s : Gm) (k f : Int) : Int := fz (ints (mS p k)) (mN s k - f.toNat) f.toNat
set_option maxRecDepth 100000
theorem head_lay (g : Nat) (h : g < 8) : splice (List.replicate 54 0) 0 ([UInt8.ofNat g, 0].take 2) = (hL g).l := by
  unfold hL
  rw [if_pos (show grp (g : Int) by unfold grp; omega)]
  rfl
theorem rhead_lay (g : Nat) (h : g < 8) : (List.replicate 54 0).set 0 (UInt8.ofNat g) = (hL g).l := by
  unfold hL
  rw [if_pos (show grp (g : Int) by unfold grp; omega)]
  rfl
set_option maxRecDepth 100000 in
set_option maxHeartbeats 1000000 in
theorem rmhead_ok (g : Nat) (w : World) (h : g < 8) :
    Calls Tryz.prog 34 #[.int .i64 g] w fun e w' => e = .returned (.tuple #[.agg (hL g).cs.toArray, .int .i64 0]) ∧ Below w.heap.size w w' := by
  have hq := (hL g).len
  have hlay := rhead_lay g h
  generalize hL g = q at *
  have t1 : True := trivial
  have h8 : Hid ((g : Int) = ((UInt8.ofNat g).toNat : Int)) := by show _ = _; rw [u8_to (by omega)]
  have ew : IntKind.u8.wrap (g : Int) = (g : Int) := by rw [IntKind.wrap_u8]; omega
  go_enter Tryz.func34, Tryz.ntmps34
  go_wp2_with (first
    | (have _t := t1; refine at_new 62 54 arrL (by rfl) (by rfl) ?_; intro gr w1 a1 z1 r1 b1; clear _t t1)
    | (refine at_bldL (by rfl) (by rfl) ?_)
    | (refine at_new 62 54 arrL (by rfl) (by rfl) ?_; intro gp w2 a2 z2 r2 b2)
    | (refine at_put 62 54 arrL (by rfl) _ _ (by rfl) gp (by rfl) Ld.zero.l (by rfl) (by rfl) _ r2 (by simp) ?_; intro w3 r3 s3
       have rr : Row w3 gr (List.replicate 54 0) := (r1.later b2).step s3 (by omega)
       have S3 := (Stp.of_below (bnext b1 b2 (Nat.le_refl _)) (fun x => w.heap.size ≤ x)).next s3 (fun x hx => .inl (by subst hx; have := b1.size; omega))
       clear r1 r2)
    | (refine at_byte (by rfl) _ _ (by rfl) gp 0 (by rfl) (UInt8.ofNat g) _ (by rfl) h8.out _ r3 (by decide) ?_; intro w4 r4 s4
       have e4 : Row w4 gp q.l := (by rw [← hlay]; exact r4)
       have rr4 : Row w4 gr (List.replicate 54 0) := rr.step s4 (by omega)
       have S4 := S3.next s4 (fun x hx => .inl (by subst hx; have := b1.size; omega)))
    | (refine at_getL (by rfl) _ (by rfl) gp (by rfl) q e4 ?_)
    | (refine at_put 62 54 arrL (by rfl) _ _ (by rfl) gr (by rfl) q.l (by rfl) hq _ rr4 (by simp) ?_; intro w8 r8 s8))
  have S8 := S4.next s8 (fun x hx => .inl (by subst hx; exact a1))
  exact bodyPost_ret (retAt arrL Tryz.results34 rfl rfl r8 hq) rfl ⟨rfl, S8.below (Nat.le_refl _) (fun _ h => h)⟩
set_option maxRecDepth 100000 in
set_option maxHeartbeats 1000000 in
theorem rmhead_any (g : Int) (w : World) :
    Calls Tryz.prog 34 #[.int .i64 g] w fun e w' => e = .returned (.tuple #[.agg (hL g).cs.toArray, .int .i64 (hE g)]) ∧ Below w.heap.size w w' := by
  by_cases h : grp g
  · obtain ⟨j, rfl⟩ := Int.eq_ofNat_of_zero_le h.1
    rw [show hE j = 0 from if_pos h]
    exact rmhead_ok j w (by have := h.2; omega)
  · have hE' : Hid (hL g = Ld.zero ∧ hE g = 2) := ⟨if_neg h, if_neg h⟩
    have hway : g < 0 ∨ (¬ g < 0 ∧ g > 7) := by unfold grp at h; omega
    clear h
    rcases hway with h | ⟨h0, h⟩
    all_goals
      have t1 : True := trivial
      go_enter Tryz.func34, Tryz.ntmps34
      go_wp2_with (first
        | (have _t := t1; refine at_new 62 54 arrL (by rfl) (by rfl) ?_; intro gr w1 a1 z1 r1 b1; clear _t t1)
        | (refine at_bldL (by rfl) (by rfl) ?_)
        | (refine at_new 62 54 arrL (by rfl) (by rfl) ?_; intro gp w2 a2 z2 r2 b2)
        | (refine at_put 62 54 arrL (by rfl) _ _ (by rfl) gp (by rfl) Ld.zero.l (by rfl) (by rfl) _ r2 (by simp) ?_; intro w3 r3 s3
           have rr : Row w3 gr (List.replicate 54 0) := (r1.later b2).step s3 (by omega)
           have S3 := (Stp.of_below (bnext b1 b2 (Nat.le_refl _)) (fun x => w.heap.size ≤ x)).next s3 (fun x hx => .inl (by subst hx; have := b1.size; omega))
           clear r1 r2)
        | (refine at_getL (by rfl) _ (by rfl) gp (by rfl) Ld.zero r3 ?_)
        | (refine at_put 62 54 arrL (by rfl) _ _ (by rfl) gr (by rfl) Ld.zero.l (by rfl) (by rfl) _ rr (by simp) ?_; intro w8 r8 s8))
      have S8 := S3.next s8 (fun x hx => .inl (by subst hx; exact a1))
      refine bodyPost_ret (retAt arrL Tryz.results34 rfl rfl r8 (by rfl)) rfl ⟨?_, S8.below (Nat.le_refl _) (fun _ h => h)⟩
      rw [hE'.out.1, hE'.out.2]; rfl
end Go.Proofs.YtgdnhkdfcjpdiaaGreatDoor
