/-
  What the calls of layer 7 return, each for every input: no statement is proved here.
-/
import Derived.Test.YteceapdkgidenaaSealC
namespace Go.Proofs.Yteceapdkgidenaa
open Go.ChangeShapes Go.WideShapes Go.ChangeAt Go.RowKit
set_option linter.unusedVariables false

/-- What Put tells: the sector, and the error; what Get tells. -/
def pB (k : Int) (t : Nat) (p : Ld) : Blk := if isK k then sealK k.toNat t p else Blk.zero
def pE (k : Int) : Int := if isK k then 0 else 2
def gE (k : Int) (b : Blk) : Int := if isK k then (if (oK b : Int) = k then 0 else 21) else 2
def gP (k : Int) (b : Blk) : Ld := if gE k b = 0 then oP b else Ld.zero
def gT (k : Int) (b : Blk) : Nat := if gE k b = 0 then oT b else 0
/-- The turn behind; what Same tells. -/
def nT (b : Blk) : Nat := (oT b + 1) % 4294967296
def sm2 (a b : Blk) : Bool := if oK a = oK b then (if oK a = 0 then decide (a = b) else decide (oP a = oP b)) else false
theorem nT_lt (b : Blk) : nT b < 4294967296 := by unfold nT; omega
theorem isK_nat {k : Int} (h : isK k = true) : ∃ n : Nat, k = (n : Int) ∧ 1 ≤ n ∧ n ≤ 6 := by
  unfold isK at h; simp at h
  exact ⟨k.toNat, by omega, by omega, by omega⟩
theorem isK_of {n : Nat} (h1 : 1 ≤ n) (h6 : n ≤ 6) : isK (n : Int) = true := by unfold isK; simp; omega
set_option maxRecDepth 100000 in
theorem put_any (k : Int) (t : Nat) (p : Ld) (w : World) (ht : t < 4294967296) :
    Calls Try.prog 31 #[.int .i64 k, .int .u32 (t : Int), .agg p.cs.toArray] w fun e w' => e = .returned (.tuple #[.agg (pB k t p).cs.toArray, .int .i64 (pE k)]) ∧ Below w.heap.size w w' := by
  have hp := p.len
  cases hk : isK k
  · have hE : Hid (pB k t p = Blk.zero ∧ pE k = 2) := ⟨by unfold pB; rw [hk]; rfl, by unfold pE; rw [hk]; rfl⟩
    go_enter Try.func31, Try.ntmps31
    go_wp2_with (first
      | (refine at_box 35 54 arrL (by rfl) _ (by rfl) p.l (by rfl) hp ?_; intro g1 w1 a1 z1 r1 b1)
      | (refine at_new 23 64 arrB (by rfl) (by rfl) ?_; intro gr w2 a2 z2 r2 b2)
      | (go_at_call 45; refine (isKind_any _ _).mono ?_; rintro e w3 ⟨rfl, rfl⟩; rw [hk])
      | (refine at_bldB (by rfl) (by rfl) ?_)
      | (refine at_put 23 64 arrB (by rfl) _ _ (by rfl) gr (by rfl) Blk.zero.l (by rfl) Blk.zero.len _ r2 (by simp) ?_; intro w9 r9 s9))
    have S2 : Stp (fun x => w.heap.size ≤ x) w w2 := Stp.of_below (bnext b1 b2 (Nat.le_refl _)) _
    have hgr : w.heap.size ≤ gr := by have := b1.size; omega
    refine bodyPost_ret (retAt arrB Try.results31 rfl rfl r9 Blk.zero.len) rfl ⟨by obtain ⟨q1, q2⟩ := hE.out; rw [q1, q2]; rfl, (S2.next s9 (fun x hx => .inl (by subst hx; exact hgr))).below (Nat.le_refl _) (fun _ h => h)⟩
  · obtain ⟨n, rfl, h1, h6⟩ := isK_nat hk
    have hE : Hid (pB n t p = sealK n t p ∧ pE n = 0) := ⟨by unfold pB; rw [hk]; rfl, by unfold pE; rw [hk]; rfl⟩
    have hlb := (sealK n t p).len
    go_enter Try.func31, Try.ntmps31
    go_wp2_with (first
      | (refine at_box 35 54 arrL (by rfl) _ (by rfl) p.l (by rfl) hp ?_; intro g1 w1 a1 z1 r1 b1)
      | (refine at_new 23 64 arrB (by rfl) (by rfl) ?_; intro gr w2 a2 z2 r2 b2)
      | (go_at_call 45; refine (isKind_any _ _).mono ?_; rintro e w3 ⟨rfl, rfl⟩; rw [hk])
      | (refine at_get 35 54 arrL (by rfl) _ (by rfl) g1 (by rfl) _ (r1.later b2) hp ?_)
      | (go_at_call 46; refine (sealed_any n t p _ h1 h6 ht).mono ?_; rintro e w4 ⟨rfl, b4⟩)
      | (refine at_put 23 64 arrB (by rfl) _ _ (by rfl) gr (by rfl) (sealK n t p).l (by rfl) hlb _ (r2.later b4) (by simp) ?_; intro w9 r9 s9))
    have S4 : Stp (fun x => w.heap.size ≤ x) w w4 := Stp.of_below (bnext (bnext b1 b2 (Nat.le_refl _)) b4 (Nat.le_refl _)) _
    have hgr : w.heap.size ≤ gr := by have := b1.size; omega
    refine bodyPost_ret (retAt arrB Try.results31 rfl rfl r9 hlb) rfl ⟨by obtain ⟨q1, q2⟩ := hE.out; rw [q1, q2]; rfl, (S4.next s9 (fun x hx => .inl (by subst hx; exact hgr))).below (Nat.le_refl _) (fun _ h => h)⟩
set_option maxRecDepth 100000 in
theorem kind_any (b : Blk) (w : World) :
    Calls Try.prog 34 #[.agg b.cs.toArray] w fun e w' => e = .returned (.int .i64 (oK b : Nat)) ∧ Below w.heap.size w w' := by
  have hb := b.len
  have hlp := (oP b).len
  go_enter Try.func34, Try.ntmps34
  go_wp2_with (first
    | (refine at_box 23 64 arrB (by rfl) _ (by rfl) b.l (by rfl) hb ?_; intro gb w1 a1 z1 r1 b1)
    | (refine at_get 23 64 arrB (by rfl) _ (by rfl) gb (by rfl) _ r1 hb ?_)
    | (go_at_call 48; refine (open_any b _).mono ?_; rintro e w2 ⟨rfl, b2⟩)
    | (refine at_new 35 54 arrL (by rfl) (by rfl) ?_; intro gp w3 a3 z3 r3 b3)
    | (refine at_put 35 54 arrL (by rfl) _ _ (by rfl) gp (by rfl) (oP b).l (by rfl) hlp _ r3 (by simp) ?_; intro w9 r9 s9))
  have S3 : Stp (fun x => w.heap.size ≤ x) w w3 := Stp.of_below (bnext (bnext b1 b2 (Nat.le_refl _)) b3 (Nat.le_refl _)) _
  have hgp : w.heap.size ≤ gp := by have := b1.size; have := b2.size; omega
  have S9 := S3.next s9 (fun x hx => .inl (by subst hx; exact hgp))
  go_returns
  exact ⟨rfl, S9.below (Nat.le_refl _) (fun _ h => h)⟩
end Go.Proofs.Yteceapdkgidenaa
