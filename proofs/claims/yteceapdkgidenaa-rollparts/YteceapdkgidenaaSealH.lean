/-
  What the document's Get of layer 7 returns, for every input: no statement is proved here.
-/
import Derived.Test.YteceapdkgidenaaSealD
namespace Go.Proofs.Yteceapdkgidenaa
open Go.ChangeShapes Go.WideShapes Go.ChangeAt Go.RowKit
set_option linter.unusedVariables false

theorem rget32_56 (g : Nat) (l : List UInt8) (w : World) (h : Row w g l) (hl : l.length = 64) :
    Calls Try.prog 43 #[.slice (some ⟨g, 0, none⟩) 64 64, .int .i64 56] w fun e w' => e = .returned (.tuple #[.int .u32 (get4 l 56 : Nat), .int .i64 0]) ∧ w = w' := by
  have hb := h.bs0 64 64 (by omega) (Nat.le_refl _) (by decide)
  rw [List.take_of_length_le (by omega)] at hb
  rw [← le4_ints]
  exact rget32_ok _ 64 64 _ 56 w hb (by omega)
theorem rget32_60 (g : Nat) (l : List UInt8) (w : World) (h : Row w g l) (hl : l.length = 64) :
    Calls Try.prog 43 #[.slice (some ⟨g, 0, none⟩) 64 64, .int .i64 60] w fun e w' => e = .returned (.tuple #[.int .u32 (get4 l 60 : Nat), .int .i64 0]) ∧ w = w' := by
  have hb := h.bs0 64 64 (by omega) (Nat.le_refl _) (by decide)
  rw [List.take_of_length_le (by omega)] at hb
  rw [← le4_ints]
  exact rget32_ok _ 64 64 _ 60 w hb (by omega)
/-- The first k bytes of the load, and noughts. -/
def mix (l : List UInt8) (k : Nat) : List UInt8 := l.take k ++ List.replicate (54 - k) 0
theorem mix_len {l : List UInt8} (h : l.length = 64) {k : Nat} (hk : k ≤ 54) : (mix l k).length = 54 := by unfold mix; simp [h]; omega
theorem mix_set {l : List UInt8} (h : l.length = 64) {k : Nat} (hk : k < 54) : (mix l k).set k (l.getD k 0) = mix l (k + 1) := by
  have e : l.take (k + 1) = l.take k ++ [l.getD k 0] := by rw [List.take_add_one, List.getD_eq_getElem?_getD, List.getElem?_eq_getElem (by omega)]; rfl
  unfold mix
  rw [List.set_append_right _ _ (by rw [List.length_take]; omega), List.length_take, Nat.min_eq_left (by omega), Nat.sub_self, show 54 - k = (54 - (k + 1)) + 1 by omega, List.replicate_succ, List.set_cons_zero, e, List.append_assoc]; rfl
theorem mix_all (b : Blk) : mix b.l 54 = (ldOf b).l := by unfold mix ldOf; simp
set_option maxRecDepth 100000 in
set_option maxHeartbeats 2000000 in
theorem rget_no (k : Int) (b : Blk) (w : World) (hk : isK k = false) :
    Calls Try.prog 28 #[.int .i64 k, .agg b.cs.toArray] w fun e w' => e = .returned (.tuple #[.agg (gP k b).cs.toArray, .int .u32 (gT k b : Nat), .int .i64 (gE k b)]) ∧ Below w.heap.size w w' := by
  have hb := b.len
  have he : gE k b = 2 := by unfold gE; rw [hk]; rfl
  have hE : Hid (gP k b = Ld.zero ∧ gT k b = 0 ∧ gE k b = 2) := ⟨by unfold gP; rw [he]; rfl, by unfold gT; rw [he]; rfl, he⟩
  clear he
  go_enter Try.func28, Try.ntmps28
  go_wp2_with (first
    | (refine at_box 23 64 arrB (by rfl) _ (by rfl) b.l (by rfl) hb ?_; intro gb w1 a1 z1 r1 b1)
    | (refine at_new 35 54 arrL (by rfl) (by rfl) ?_; intro gr w2 a2 z2 r2 b2)
    | (go_at_call 42; refine (may_any _ _).mono ?_; rintro e w3 ⟨rfl, rfl⟩; rw [hk])
    | (refine at_bldL (by rfl) (by rfl) ?_)
    | (refine at_put 35 54 arrL (by rfl) _ _ (by rfl) gr (by rfl) Ld.zero.l (by rfl) Ld.zero.len _ r2 (by simp) ?_; intro w9 r9 s9))
  have S2 : Stp (fun x => w.heap.size ≤ x) w w2 := Stp.of_below (bnext b1 b2 (Nat.le_refl _)) _
  have hgr : w.heap.size ≤ gr := by have := b1.size; omega
  refine bodyPost_ret (retAtt arrL Try.results28 rfl rfl rfl r9 Ld.zero.len) rfl ⟨by obtain ⟨q1, q2, q3⟩ := hE.out; rw [q1, q2, q3]; rfl, (S2.next s9 (fun x hx => .inl (by subst hx; exact hgr))).below (Nat.le_refl _) (fun _ h => h)⟩
set_option maxRecDepth 100000 in
set_option maxHeartbeats 2000000 in
/-- It is right of that kind. -/
theorem rget_right (n : Nat) (b : Blk) (w : World) (h1 : 1 ≤ n) (h6 : n ≤ 6) (hx : oK b = n) :
    Calls Try.prog 28 #[.int .i64 (n : Int), .agg b.cs.toArray] w fun e w' => e = .returned (.tuple #[.agg (gP n b).cs.toArray, .int .u32 (gT n b : Nat), .int .i64 (gE n b)]) ∧ Below w.heap.size w w' := by
  have hb := b.len
  have hk := isK_of h1 h6
  have he : gE n b = 0 := by unfold gE; rw [hk, if_pos rfl, if_pos (by omega)]
  have hr : rightB b = true := by
    unfold oK at hx
    split at hx
    · rename_i h; exact h
    · omega
  have hE : Hid (gP n b = ldOf b ∧ gT n b = trn b ∧ gE n b = 0) := ⟨by unfold gP oP; rw [he, hr]; rfl, by unfold gT oT; rw [he, hr]; rfl, he⟩
  have hyes := (right_is b n h1 h6).2 hx
  clear he hr hx
  have e1 : ((byt b 54 : Int) != (n : Int)) = false := by rw [bne_eq_false_iff_eq]; omega
  have e2 : ((byt b 55 : Int) != 255 - (n : Int)) = false := by rw [bne_eq_false_iff_eq]; omega
  have e3 : ((get4 b.l 60 : Int) != (sumOf (ints (b.l.take 60)) : Int)) = false := by rw [bne_eq_false_iff_eq]; omega
  have l54 := byt_lt b 54
  have l55 := byt_lt b 55
  have l60 := get4_lt b.l 60
  have lsm := sum_lt (ints (b.l.take 60))
  have tok : True := trivial
  have tok0 : True := trivial
  clear hyes
  go_enter Try.func28, Try.ntmps28
  go_wp2_with (first
    | (refine at_box 23 64 arrB (by rfl) _ (by rfl) b.l (by rfl) hb ?_; intro gb w1 a1 z1 r1 b1)
    | (have _t := tok0; refine at_new 35 54 arrL (by rfl) (by rfl) ?_; intro gr w2 a2 z2 r2 b2; clear _t tok0
       have u2 : Row w2 gb b.l := r1.later b2
       have c54 : w2.cell? ⟨gb, 54, none⟩ = some (.int .u8 (byt b 54 : Nat)) := u2.cell 54 (by omega)
       have c55 : w2.cell? ⟨gb, 55, none⟩ = some (.int .u8 (byt b 55 : Nat)) := u2.cell 55 (by omega)
       have d60 := u2.bs0 60 64 (by omega) (by omega) (by decide))
    | (go_at_call 42; refine (may_any _ _).mono ?_; rintro e w3 ⟨rfl, rfl⟩; rw [hk])
    | (go_at_call 43; have _t := tok; refine (rget32_56 gb b.l _ u2 hb).mono ?_; rintro e w3 ⟨rfl, rfl⟩; clear _t tok)
    | (go_at_call 43; refine (rget32_60 gb b.l _ u2 hb).mono ?_; rintro e w3 ⟨rfl, rfl⟩)
    | (go_at_call 44; refine (rof_any _ 60 64 _ w2 d60).mono ?_; rintro e w7 ⟨rfl, rfl⟩)
    | (refine at_bldL (by rfl) (by rfl) ?_)
    | (refine at_new 35 54 arrL (by rfl) (by rfl) ?_; intro gp w4 a4 z4 r4 b4)
    | (refine at_put 35 54 arrL (by rfl) _ _ (by rfl) gp (by rfl) Ld.zero.l (by rfl) Ld.zero.len _ r4 (by simp) ?_; intro w5 r5 s5))
  have u5 : Row w5 gb b.l := ((u2.later b4).step s5 (by omega))
  have q5 : Row w5 gr (List.replicate 54 0) := ((r2.later b4).step s5 (by omega))
  have S5 : Stp (fun x => w.heap.size ≤ x) w w5 := (Stp.of_below (bnext (bnext b1 b2 (Nat.le_refl _)) b4 (Nat.le_refl _)) _).next s5 (fun x hx => .inl (by subst hx; have := b1.size; have := b2.size; omega))
  have hgr : w.heap.size ≤ gr := by have := b1.size; omega
  have hgp : w.heap.size ≤ gp := by have := b1.size; have := b2.size; omega
  have n1 : gb ≠ gp := by omega
  have n2 : gr ≠ gp := by omega
  have m0 : Row w5 gp (mix b.l 0) := r5
  clear r1 b1 a1 z1 r2 b2 a2 z2 u2 c54 c55 d60 a4 z4 r4 b4 r5 s5 e1 e2 e3
  go_loopw [12] (fun i wr => ∃ k : Nat, k ≤ 54 ∧ i = .int .i64 k ∧ Row wr gp (mix b.l k) ∧ Stp (fun x => x = gp) w5 wr) (fun i _ => 54 - (intOf i).toNat)
  case atStart => exact ⟨0, Nat.zero_le _, rfl, m0, Stp.refl _ _⟩
  case round =>
    obtain ⟨k, hk4, rfl, mk, sk⟩ := hrel
    by_cases hlt : k < 54
    · have c1 : _ = some (Value.int .u8 _) := (u5.step sk n1).cell k (by omega)
      have c2 := mk.cell k (by rw [mix_len hb hk4]; exact hlt)
      have f2 := mk.frozen k
      have mk' := mk.set k (b.l.getD k 0)
      rw [mix_set hb hlt] at mk'
      generalize hv : (((b.l.getD k 0).toNat : Nat) : Int) = v at *
      clear hv
      go_wp2_with fail
      go_roundw
      case rel => exact ⟨k + 1, by omega, by go_num, mk', sk.setCell (.inl rfl) _⟩
      case measure => simp [intOf]; omega
    · obtain rfl : k = 54 := by omega
      rw [mix_all] at mk
      have qk := q5.step sk n2
      have hlp := (ldOf b).len
      have Sk := S5.next sk (fun x hx => .inl (by subst hx; exact hgp))
      go_wp2_with (first
        | (refine at_get 35 54 arrL (by rfl) _ (by rfl) gp (by rfl) _ mk hlp ?_)
        | (refine at_put 35 54 arrL (by rfl) _ _ (by rfl) gr (by rfl) (ldOf b).l (by rfl) hlp _ qk (by simp) ?_; intro w9 r9 s9))
      refine bodyPost_ret (retAtt arrL Try.results28 rfl rfl rfl r9 hlp) rfl ⟨by obtain ⟨q1, q2, q3⟩ := hE.out; rw [q1, q2, q3]; rfl, (Sk.next s9 (fun x hx => .inl (by subst hx; exact hgr))).below (Nat.le_refl _) (fun _ h => h)⟩
end Go.Proofs.Yteceapdkgidenaa
