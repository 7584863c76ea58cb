/-
  What the document's Get of layer 7 returns of a sector that is not right of that kind: no statement is proved here.
-/
import Derived.Test.YteceapdkgidenaaSealH
namespace Go.Proofs.Yteceapdkgidenaa
open Go.ChangeShapes Go.WideShapes Go.ChangeAt Go.RowKit
set_option linter.unusedVariables false

set_option maxRecDepth 100000 in
set_option maxHeartbeats 1000000 in
theorem rget_e3 (n : Nat) (b : Blk) (w : World) (h1 : 1 ≤ n) (h6 : n ≤ 6) (hE : Hid (gP n b = Ld.zero ∧ gT n b = 0 ∧ gE n b = 21)) (e1 : ((byt b 54 : Int) != (n : Int)) = false) (e2 : ((byt b 55 : Int) != 255 - (n : Int)) = false) (e3 : ((get4 b.l 60 : Int) != (sumOf (ints (b.l.take 60)) : Int)) = true) :
    Calls Try.prog 28 #[.int .i64 (n : Int), .agg b.cs.toArray] w fun e w' => e = .returned (.tuple #[.agg (gP n b).cs.toArray, .int .u32 (gT n b : Nat), .int .i64 (gE n b)]) ∧ Below w.heap.size w w' := by
  have hb := b.len
  have hk := isK_of h1 h6
  have l54 := byt_lt b 54
  have l55 := byt_lt b 55
  have l60 := get4_lt b.l 60
  have lsm := sum_lt (ints (b.l.take 60))
  have tok : True := trivial
  go_enter Try.func28, Try.ntmps28
  go_wp2_with (first
    | (refine at_box 23 64 arrB (by rfl) _ (by rfl) b.l (by rfl) hb ?_; intro gb w1 a1 z1 r1 b1)
    | (refine at_new 35 54 arrL (by rfl) (by rfl) ?_; intro gr w2 a2 z2 r2 b2
       have u2 : Row w2 gb b.l := r1.later b2
       have c54 : w2.cell? ⟨gb, 54, none⟩ = some (.int .u8 (byt b 54 : Nat)) := u2.cell 54 (by omega)
       have c55 : w2.cell? ⟨gb, 55, none⟩ = some (.int .u8 (byt b 55 : Nat)) := u2.cell 55 (by omega)
       have d60 := u2.bs0 60 64 (by omega) (by omega) (by decide))
    | (go_at_call 42; refine (may_any _ _).mono ?_; rintro e w3 ⟨rfl, rfl⟩; rw [hk])
    | (go_at_call 43; have _t := tok; refine (rget32_56 gb b.l _ u2 hb).mono ?_; rintro e w3 ⟨rfl, rfl⟩; clear _t tok)
    | (go_at_call 43; refine (rget32_60 gb b.l _ u2 hb).mono ?_; rintro e w3 ⟨rfl, rfl⟩)
    | (go_at_call 44; refine (rof_any _ 60 64 _ w2 d60).mono ?_; rintro e w7 ⟨rfl, rfl⟩)
    | (refine at_bldL (by rfl) (by rfl) ?_)
    | (refine at_put 35 54 arrL (by rfl) _ _ (by rfl) gr (by rfl) Ld.zero.l (by rfl) Ld.zero.len _ r2 (by simp) ?_; intro w9 r9 s9))
  have S2 : Stp (fun x => w.heap.size ≤ x) w w2 := Stp.of_below (bnext b1 b2 (Nat.le_refl _)) _
  have hgr : w.heap.size ≤ gr := by have := b1.size; omega
  refine bodyPost_ret (retAtt arrL Try.results28 rfl rfl rfl r9 Ld.zero.len) rfl ⟨by obtain ⟨q1, q2, q3⟩ := hE.out; rw [q1, q2, q3]; rfl, (S2.next s9 (fun x hx => .inl (by subst hx; exact hgr))).below (Nat.le_refl _) (fun _ h => h)⟩
set_option maxRecDepth 100000 in
set_option maxHeartbeats 1000000 in
theorem rget_e2 (n : Nat) (b : Blk) (w : World) (h1 : 1 ≤ n) (h6 : n ≤ 6) (hE : Hid (gP n b = Ld.zero ∧ gT n b = 0 ∧ gE n b = 21)) (e1 : ((byt b 54 : Int) != (n : Int)) = false) (e2 : ((byt b 55 : Int) != 255 - (n : Int)) = true) :
    Calls Try.prog 28 #[.int .i64 (n : Int), .agg b.cs.toArray] w fun e w' => e = .returned (.tuple #[.agg (gP n b).cs.toArray, .int .u32 (gT n b : Nat), .int .i64 (gE n b)]) ∧ Below w.heap.size w w' := by
  have hb := b.len
  have hk := isK_of h1 h6
  have l54 := byt_lt b 54
  have l55 := byt_lt b 55
  have l60 := get4_lt b.l 60
  have lsm := sum_lt (ints (b.l.take 60))
  have tok : True := trivial
  go_enter Try.func28, Try.ntmps28
  go_wp2_with (first
    | (refine at_box 23 64 arrB (by rfl) _ (by rfl) b.l (by rfl) hb ?_; intro gb w1 a1 z1 r1 b1)
    | (refine at_new 35 54 arrL (by rfl) (by rfl) ?_; intro gr w2 a2 z2 r2 b2
       have u2 : Row w2 gb b.l := r1.later b2
       have c54 : w2.cell? ⟨gb, 54, none⟩ = some (.int .u8 (byt b 54 : Nat)) := u2.cell 54 (by omega)
       have c55 : w2.cell? ⟨gb, 55, none⟩ = some (.int .u8 (byt b 55 : Nat)) := u2.cell 55 (by omega)
       have d60 := u2.bs0 60 64 (by omega) (by omega) (by decide))
    | (go_at_call 42; refine (may_any _ _).mono ?_; rintro e w3 ⟨rfl, rfl⟩; rw [hk])
    | (go_at_call 43; have _t := tok; refine (rget32_56 gb b.l _ u2 hb).mono ?_; rintro e w3 ⟨rfl, rfl⟩; clear _t tok)
    | (go_at_call 43; refine (rget32_60 gb b.l _ u2 hb).mono ?_; rintro e w3 ⟨rfl, rfl⟩)
    | (go_at_call 44; refine (rof_any _ 60 64 _ w2 d60).mono ?_; rintro e w7 ⟨rfl, rfl⟩)
    | (refine at_bldL (by rfl) (by rfl) ?_)
    | (refine at_put 35 54 arrL (by rfl) _ _ (by rfl) gr (by rfl) Ld.zero.l (by rfl) Ld.zero.len _ r2 (by simp) ?_; intro w9 r9 s9))
  have S2 : Stp (fun x => w.heap.size ≤ x) w w2 := Stp.of_below (bnext b1 b2 (Nat.le_refl _)) _
  have hgr : w.heap.size ≤ gr := by have := b1.size; omega
  refine bodyPost_ret (retAtt arrL Try.results28 rfl rfl rfl r9 Ld.zero.len) rfl ⟨by obtain ⟨q1, q2, q3⟩ := hE.out; rw [q1, q2, q3]; rfl, (S2.next s9 (fun x hx => .inl (by subst hx; exact hgr))).below (Nat.le_refl _) (fun _ h => h)⟩
set_option maxRecDepth 100000 in
set_option maxHeartbeats 1000000 in
theorem rget_e1 (n : Nat) (b : Blk) (w : World) (h1 : 1 ≤ n) (h6 : n ≤ 6) (hE : Hid (gP n b = Ld.zero ∧ gT n b = 0 ∧ gE n b = 21)) (e1 : ((byt b 54 : Int) != (n : Int)) = true) :
    Calls Try.prog 28 #[.int .i64 (n : Int), .agg b.cs.toArray] w fun e w' => e = .returned (.tuple #[.agg (gP n b).cs.toArray, .int .u32 (gT n b : Nat), .int .i64 (gE n b)]) ∧ Below w.heap.size w w' := by
  have hb := b.len
  have hk := isK_of h1 h6
  have l54 := byt_lt b 54
  have l55 := byt_lt b 55
  have l60 := get4_lt b.l 60
  have lsm := sum_lt (ints (b.l.take 60))
  have tok : True := trivial
  go_enter Try.func28, Try.ntmps28
  go_wp2_with (first
    | (refine at_box 23 64 arrB (by rfl) _ (by rfl) b.l (by rfl) hb ?_; intro gb w1 a1 z1 r1 b1)
    | (refine at_new 35 54 arrL (by rfl) (by rfl) ?_; intro gr w2 a2 z2 r2 b2
       have u2 : Row w2 gb b.l := r1.later b2
       have c54 : w2.cell? ⟨gb, 54, none⟩ = some (.int .u8 (byt b 54 : Nat)) := u2.cell 54 (by omega)
       have c55 : w2.cell? ⟨gb, 55, none⟩ = some (.int .u8 (byt b 55 : Nat)) := u2.cell 55 (by omega)
       have d60 := u2.bs0 60 64 (by omega) (by omega) (by decide))
    | (go_at_call 42; refine (may_any _ _).mono ?_; rintro e w3 ⟨rfl, rfl⟩; rw [hk])
    | (go_at_call 43; have _t := tok; refine (rget32_56 gb b.l _ u2 hb).mono ?_; rintro e w3 ⟨rfl, rfl⟩; clear _t tok)
    | (go_at_call 43; refine (rget32_60 gb b.l _ u2 hb).mono ?_; rintro e w3 ⟨rfl, rfl⟩)
    | (go_at_call 44; refine (rof_any _ 60 64 _ w2 d60).mono ?_; rintro e w7 ⟨rfl, rfl⟩)
    | (refine at_bldL (by rfl) (by rfl) ?_)
    | (refine at_put 35 54 arrL (by rfl) _ _ (by rfl) gr (by rfl) Ld.zero.l (by rfl) Ld.zero.len _ r2 (by simp) ?_; intro w9 r9 s9))
  have S2 : Stp (fun x => w.heap.size ≤ x) w w2 := Stp.of_below (bnext b1 b2 (Nat.le_refl _)) _
  have hgr : w.heap.size ≤ gr := by have := b1.size; omega
  refine bodyPost_ret (retAtt arrL Try.results28 rfl rfl rfl r9 Ld.zero.len) rfl ⟨by obtain ⟨q1, q2, q3⟩ := hE.out; rw [q1, q2, q3]; rfl, (S2.next s9 (fun x hx => .inl (by subst hx; exact hgr))).below (Nat.le_refl _) (fun _ h => h)⟩
theorem rget_else (n : Nat) (b : Blk) (w : World) (h1 : 1 ≤ n) (h6 : n ≤ 6) (hx : oK b ≠ n) :
    Calls Try.prog 28 #[.int .i64 (n : Int), .agg b.cs.toArray] w fun e w' => e = .returned (.tuple #[.agg (gP n b).cs.toArray, .int .u32 (gT n b : Nat), .int .i64 (gE n b)]) ∧ Below w.heap.size w w' := by
  have hk := isK_of h1 h6
  have he : gE n b = 21 := by unfold gE; rw [hk, if_pos rfl, if_neg (by omega)]
  have hE : Hid (gP n b = Ld.zero ∧ gT n b = 0 ∧ gE n b = 21) := ⟨by unfold gP; rw [he]; rfl, by unfold gT; rw [he]; rfl, he⟩
  have hno : ¬ (byt b 54 = n ∧ byt b 55 = 255 - n ∧ get4 b.l 60 = sumOf (ints (b.l.take 60))) := fun h => hx ((right_is b n h1 h6).1 h)
  have l54 := byt_lt b 54
  cases e1 : ((byt b 54 : Int) != (n : Int))
  · cases e2 : ((byt b 55 : Int) != 255 - (n : Int))
    · cases e3 : ((get4 b.l 60 : Int) != (sumOf (ints (b.l.take 60)) : Int))
      · exfalso
        rw [bne_eq_false_iff_eq] at e1 e2 e3
        omega
      · exact rget_e3 n b w h1 h6 hE e1 e2 e3
    · exact rget_e2 n b w h1 h6 hE e1 e2
  · exact rget_e1 n b w h1 h6 hE e1
theorem rget_any (k : Int) (b : Blk) (w : World) :
    Calls Try.prog 28 #[.int .i64 k, .agg b.cs.toArray] w fun e w' => e = .returned (.tuple #[.agg (gP k b).cs.toArray, .int .u32 (gT k b : Nat), .int .i64 (gE k b)]) ∧ Below w.heap.size w w' := by
  cases hk : isK k
  · exact rget_no k b w hk
  · obtain ⟨n, rfl, h1, h6⟩ := isK_nat hk
    by_cases hx : oK b = n
    · exact rget_right n b w h1 h6 hx
    · exact rget_else n b w h1 h6 hx
end Go.Proofs.Yteceapdkgidenaa
