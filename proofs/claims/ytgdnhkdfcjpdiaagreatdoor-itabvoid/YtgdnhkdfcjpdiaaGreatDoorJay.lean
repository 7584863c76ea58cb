/-
  Texts of my own, joined: no statement is proved here.
-/
import Derived.Test.YtgdnhkdfcjpdiaaGreatDoorJaj
import Derived.Test.YtgdnhkdfcjpdiaaGreatDoorJax
set_option linter.unusedSimpArgs false
set_option linter.unusedVariables false
namespace Go.Proofs.YtgdnhkdfcjpdiaaGreatDoor
open Go.ChangeShapes Go.WideShapes Go.ChangeAt Go.RowKit
set_option maxRecDepth 100000
theorem cells_kk {n : Nat} (h : n ≤ 6) : cells [UInt8.ofNat n, UInt8.ofNat (255 - n)] = [.int .u8 (n : Int), .int .u8 (255 - (n : Int))] := by
  unfold cells
  simp only [List.map_cons, List.map_nil, Extern.Stop.cell]
  rw [u8_to (by omega), u8_to (by omega), show Int.ofNat (255 - n) = 255 - (n : Int) from by have : Int.ofNat (255 - n) = ((255 - n : Nat) : Int) := rfl; omega]
  rfl
theorem news_row (w : World) (l : List UInt8) (t : TypeId) (cs : List Value) (h : cells l = cs) : ∀ j u, (cells l)[j]? = some u → (w.alloc (.cells cs.toArray t)).cell? ((⟨w.heap.size, 0, none⟩ : Addr).add j) = some u := by
  subst h
  intro j u hj
  rw [Addr.add_mid]
  exact (Row.made w l t).range j u hj
set_option maxRecDepth 100000 in
set_option maxHeartbeats 2000000 in
theorem rput_anyS (k : Int) (t : Nat) (p : Ld) (w : World) (ht : t < 4294967296) :
    Calls Tryz.prog 33 #[.int .i64 k, .int .u32 (t : Int), .agg p.cs.toArray] w fun e w' => e = .returned (.tuple #[.agg (pBS k t p).cs.toArray, .int .i64 (pE k)]) ∧ Below w.heap.size w w' := by
  have hp := p.len
  cases hk : isK k
  · have hE : Hid (pBS k t p = Blk.zero ∧ pE k = 2) := ⟨by unfold pBS; rw [hk]; rfl, by unfold pE; rw [hk]; rfl⟩
    go_enter Tryz.func33, Tryz.ntmps33
    go_wp2_with (first
      | (refine at_box 62 54 arrL (by rfl) _ (by rfl) p.l (by rfl) hp ?_; intro g1 w1 a1 z1 r1 b1)
      | (refine at_new 88 64 arrB (by rfl) (by rfl) ?_; intro gr w2 a2 z2 r2 b2)
      | (go_at_call 58; refine (may_any _ _).mono ?_; rintro e w3 ⟨rfl, rfl⟩; rw [hk])
      | (refine at_bldB (by rfl) (by rfl) ?_)
      | (refine at_put 88 64 arrB (by rfl) _ _ (by rfl) gr (by rfl) Blk.zero.l (by rfl) Blk.zero.len _ r2 (by simp) ?_; intro w9 r9 s9))
    have S2 : Stp (fun x => w.heap.size ≤ x) w w2 := Stp.of_below (bnext b1 b2 (Nat.le_refl _)) _
    have hgr : w.heap.size ≤ gr := by have := b1.size; omega
    refine bodyPost_ret (retAt arrB Tryz.results33 rfl rfl r9 Blk.zero.len) rfl ⟨by obtain ⟨q1, q2⟩ := hE.out; rw [q1, q2]; rfl, (S2.next s9 (fun x hx => .inl (by subst hx; exact hgr))).below (Nat.le_refl _) (fun _ h => h)⟩
  · obtain ⟨n, rfl, h1, h6⟩ := isK_nat hk
    have hE : Hid (pBS n t p = sealK n t p ∧ pE n = 0) := ⟨by unfold pBS; rw [hk]; rfl, by unfold pE; rw [hk]; rfl⟩
    have hlb := (sealK n t p).len
    go_enter Tryz.func33, Tryz.ntmps33
    have t1 : True := trivial
    have t2 : True := trivial
    have t3 : True := trivial
    have hsum : sumOf (ints (hdL n t p.l)) < 4294967296 := by have := sum_lt (ints (hdL n t p.l)); omega
    have hS : Hid ((p.l ++ [UInt8.ofNat n, UInt8.ofNat (255 - n)]) ++ u4 t = hdL n t p.l) := by show _ = _; unfold hdL; rw [List.append_assoc]
    have hT : Hid (hdL n t p.l ++ u4 (sumOf (ints (hdL n t p.l))) = (sealK n t p).l) := rfl
    have hh : (hdL n t p.l).length = 60 := by unfold hdL; simp [hp, u4]
    generalize hD : hdL n t p.l = D at *
    generalize hq : sumOf (ints D) = S at *
    go_wp2_with (first
      | (refine at_box 62 54 arrL (by rfl) _ (by rfl) p.l (by rfl) hp ?_; intro g1 w1 a1 z1 r1 b1)
      | (refine at_new 88 64 arrB (by rfl) (by rfl) ?_; intro gr w2 a2 z2 r2 b2)
      | (go_at_call 58; refine (may_any _ _).mono ?_; rintro e w3 ⟨rfl, rfl⟩; rw [hk])
      | (have _t := t1; at_builtin; refine at_app (B := w2.heap.size) rfl _ _ rfl 0 rfl (Own.made w2 (Nat.le_refl _)) rfl ⟨g1, 0, none⟩ 54 54 p.l rfl hp 54 rfl (fun j u hj => by rw [Addr.add_mid]; exact (((r1.later b2).later ((Below.refl _ w2).alloc (Nat.le_refl _) (Obj.cells #[] 5))).range j u hj)) (by simp; omega) (by simp) ?_
         intro g3 c3 w3 o3 s3; rw [List.nil_append] at o3; clear _t t1)
      | (have _t := t2; at_builtin; refine at_app (B := w2.heap.size) rfl _ _ rfl 54 rfl (o3.later ((Below.refl _ w3).alloc (Nat.le_refl _) _)) hp ⟨w3.heap.size, 0, none⟩ 2 2 [UInt8.ofNat n, UInt8.ofNat (255 - n)] rfl rfl 56 rfl (news_row w3 _ 5 _ (cells_kk h6)) (by simp; omega) (by have := s3.size; simp at this ⊢; omega) ?_
         intro g4 c4 w4 o4 s4; clear _t t2)
      | (go_at_call 59; have _t := t3; refine (rput32_any (t : Int) w4 (by omega) (by omega)).mono ?_; rintro e w5 ⟨rfl, rfl⟩)
      | (have _t := t3; at_builtin; refine at_app (B := w2.heap.size) rfl _ _ rfl 56 rfl (o4.later ((Below.refl _ w4).alloc (Nat.le_refl _) _)) (by simp [hp]) ⟨w4.heap.size, 0, none⟩ 4 4 (u4 t) rfl rfl 60 rfl (news_row w4 _ 5 _ (cells_u4 ht)) (by simp [hp, u4]) (by have := s3.size; have := s4.size; simp at *; omega) ?_
         intro g6 c6 w6 o6 s6; rw [hS.out] at o6; have d6 := o6.bs; rw [hh] at d6; clear _t t3)
      | (go_at_call 60; refine (rof_anyK _ 60 c6 _ w6 d6).mono ?_; rintro e w7 ⟨rfl, rfl⟩; rw [hq])
      | (go_at_call 59; refine (rput32_any (S : Int) w6 (by omega) (by omega)).mono ?_; rintro e w8 ⟨rfl, rfl⟩)
      | (at_builtin; refine at_app (B := w2.heap.size) rfl _ _ rfl 60 rfl (o6.later ((Below.refl _ w6).alloc (Nat.le_refl _) _)) hh ⟨w6.heap.size, 0, none⟩ 4 4 (u4 S) rfl rfl 64 rfl (news_row w6 _ 5 _ (cells_u4 hsum)) (by simp [hh, u4]) (by have := s3.size; have := s4.size; have := s6.size; simp at *; omega) ?_
         intro g8 c8 w8 o8 s8; rw [hT.out] at o8
         have q8 : Row w8 gr (List.replicate 64 0) := ((((((r2.later ((Below.refl _ w2).alloc (Nat.le_refl _) _)).step s3 (by omega)).later ((Below.refl _ w3).alloc (Nat.le_refl _) _)).step s4 (by omega)).later ((Below.refl _ w4).alloc (Nat.le_refl _) _)).step s6 (by omega)).later ((Below.refl _ w6).alloc (Nat.le_refl _) _) |>.step s8 (by omega))
      | (refine at_arr 88 64 arrB (by rfl) _ (by rfl) _ 64 c8 (by rfl) (Nat.le_refl _) ?_)
      | (refine at_getR 88 64 arrB (by rfl) _ (by rfl) g8 (by rfl) _ o8.range hlb ?_)
      | (refine at_put 88 64 arrB (by rfl) _ _ (by rfl) gr (by rfl) (sealK n t p).l (by rfl) hlb _ q8 (by simp) ?_; intro w9 r9 s9))
    have F2 : ∀ (x : Nat), w2.heap.size ≤ x → w.heap.size ≤ x := fun x hx => by have := b1.size; have := b2.size; omega
    have S2 : Stp (fun x => w.heap.size ≤ x) w w2 := Stp.of_below (bnext b1 b2 (Nat.le_refl _)) _
    have S8 : Stp (fun x => w.heap.size ≤ x) w w8 := ((((((((S2.alloc _).next s3 (fun x h => .inl (F2 x h))).alloc _).next s4 (fun x h => .inl (F2 x h))).alloc _).next s6 (fun x h => .inl (F2 x h))).alloc _).next s8 (fun x h => .inl (F2 x h)))
    have hgr : w.heap.size ≤ gr := by have := b1.size; omega
    refine bodyPost_ret (retAt arrB Tryz.results33 rfl rfl r9 hlb) rfl ⟨by obtain ⟨q1, q2⟩ := hE.out; rw [q1, q2]; rfl, (S8.next s9 (fun x hx => .inl (by subst hx; exact hgr))).below (Nat.le_refl _) (fun _ h => h)⟩
set_option maxRecDepth 100000
theorem rget32_56 (g : Nat) (l : List UInt8) (w : World) (h : Row w g l) (hl : l.length = 64) :
    Calls Tryz.prog 136 #[.slice (some ⟨g, 0, none⟩) 64 64, .int .i64 56] w fun e w' => e = .returned (.tuple #[.int .u32 (get4 l 56 : Nat), .int .i64 0]) ∧ w = w' := by
  have hb := h.bs0 64 64 (by omega) (Nat.le_refl _) (by decide)
  rw [List.take_of_length_le (by omega)] at hb
  rw [← le4_ints]
  exact rget32_ok _ 64 64 _ 56 w hb (by omega)
theorem rget32_60 (g : Nat) (l : List UInt8) (w : World) (h : Row w g l) (hl : l.length = 64) :
    Calls Tryz.prog 136 #[.slice (some ⟨g, 0, none⟩) 64 64, .int .i64 60] w fun e w' => e = .returned (.tuple #[.int .u32 (get4 l 60 : Nat), .int .i64 0]) ∧ w = w' := by
  have hb := h.bs0 64 64 (by omega) (Nat.le_refl _) (by decide)
  rw [List.take_of_length_le (by omega)] at hb
  rw [← le4_ints]
  exact rget32_ok _ 64 64 _ 60 w hb (by omega)
def mix (l : List UInt8) (k : Nat) : List UInt8 := l.take k ++ List.replicate (54 - k) 0
theorem mix_len {l : List UInt8} (h : l.length = 64) {k : Nat} (hk : k ≤ 54) : (mix l k).length = 54 := by unfold mix; simp [h]; omega
theorem mix_set {l : List UInt8} (h : l.length = 64) {k : Nat} (hk : k < 54) : (mix l k).set k (l.getD k 0) = mix l (k + 1) := by
  have e : l.take (k + 1) = l.take k ++ [l.getD k 0] := by rw [List.take_add_one, List.getD_eq_getElem?_getD, List.getElem?_eq_getElem (by omega)]; rfl
  unfold mix
  rw [List.set_append_right _ _ (by rw [List.length_take]; omega), List.length_take, Nat.min_eq_left (by omega), Nat.sub_self, show 54 - k = (54 - (k + 1)) + 1 by omega, List.replicate_succ, List.set_cons_zero, e, List.append_assoc]; rfl
theorem mix_all (b : Blk) : mix b.l 54 = (ldOf b).l := by unfold mix ldOf; simp
set_option maxRecDepth 100000 in
set_option maxHeartbeats 2000000 in
theorem rget_no (k : Int) (b : Blk) (w : World) (hk : isK k = false) :
    Calls Tryz.prog 112 #[.int .i64 k, .agg b.cs.toArray] w fun e w' => e = .returned (.tuple #[.agg (gP k b).cs.toArray, .int .u32 (gT k b : Nat), .int .i64 (gES k b)]) ∧ Below w.heap.size w w' := by
  have hb := b.len
  have he : gES k b = 2 := by unfold gES; rw [hk]; rfl
  have hE : Hid (gP k b = Ld.zero ∧ gT k b = 0 ∧ gES k b = 2) := ⟨by unfold gP; rw [he]; rfl, by unfold gT; rw [he]; rfl, he⟩
  clear he
  go_enter Tryz.func112, Tryz.ntmps112
  go_wp2_with (first
    | (refine at_box 88 64 arrB (by rfl) _ (by rfl) b.l (by rfl) hb ?_; intro gb w1 a1 z1 r1 b1)
    | (refine at_new 62 54 arrL (by rfl) (by rfl) ?_; intro gr w2 a2 z2 r2 b2)
    | (go_at_call 58; refine (may_any _ _).mono ?_; rintro e w3 ⟨rfl, rfl⟩; rw [hk])
    | (refine at_bldL (by rfl) (by rfl) ?_)
    | (refine at_put 62 54 arrL (by rfl) _ _ (by rfl) gr (by rfl) Ld.zero.l (by rfl) Ld.zero.len _ r2 (by simp) ?_; intro w9 r9 s9))
  have S2 : Stp (fun x => w.heap.size ≤ x) w w2 := Stp.of_below (bnext b1 b2 (Nat.le_refl _)) _
  have hgr : w.heap.size ≤ gr := by have := b1.size; omega
  refine bodyPost_ret (retAtt arrL Tryz.results112 rfl rfl rfl r9 Ld.zero.len) rfl ⟨by obtain ⟨q1, q2, q3⟩ := hE.out; rw [q1, q2, q3]; rfl, (S2.next s9 (fun x hx => .inl (by subst hx; exact hgr))).below (Nat.le_refl _) (fun _ h => h)⟩
set_option maxRecDepth 100000 in
set_option maxHeartbeats 2000000 in
theorem rget_right (n : Nat) (b : Blk) (w : World) (h1 : 1 ≤ n) (h6 : n ≤ 6) (hx : oKS b = n) :
    Calls Tryz.prog 112 #[.int .i64 (n : Int), .agg b.cs.toArray] w fun e w' => e = .returned (.tuple #[.agg (gP n b).cs.toArray, .int .u32 (gT n b : Nat), .int .i64 (gES n b)]) ∧ Below w.heap.size w w' := by
  have hb := b.len
  have hk := isK_of h1 h6
  have he : gES n b = 0 := by unfold gES; rw [hk, if_pos rfl, if_pos (by omega)]
  have hr : rightB b = true := by
    unfold oKS at hx
    split at hx
    · rename_i h; exact h
    · omega
  have hE : Hid (gP n b = ldOf b ∧ gT n b = trn b ∧ gES n b = 0) := ⟨by unfold gP oP; rw [he, hr]; rfl, by unfold gT oT; rw [he, hr]; rfl, he⟩
  have hyes := (right_is b n h1 h6).2 hx
  clear he hr hx
  have e1 : ((byt b 54 : Int) != (n : Int)) = false := by rw [bne_eq_false_iff_eq]; omega
  have e2 : ((byt b 55 : Int) != 255 - (n : Int)) = false := by rw [bne_eq_false_iff_eq]; omega
  have e3 : ((get4 b.l 60 : Int) != (sumOf (ints (b.l.take 60)) : Int)) = false := by rw [bne_eq_false_iff_eq]; omega
  have l54 := byt_lt b 54
  have l55 := byt_lt b 55
  have l60 := get4_lt b.l 60
  have lsm := sum_lt (ints (b.l.take 60))
  have tok : True := trivial
  have tok0 : True := trivial
  clear hyes
  go_enter Tryz.func112, Tryz.ntmps112
  go_wp2_with (first
    | (refine at_box 88 64 arrB (by rfl) _ (by rfl) b.l (by rfl) hb ?_; intro gb w1 a1 z1 r1 b1)
    | (have _t := tok0; refine at_new 62 54 arrL (by rfl) (by rfl) ?_; intro gr w2 a2 z2 r2 b2; clear _t tok0
       have u2 : Row w2 gb b.l := r1.later b2
       have c54 : w2.cell? ⟨gb, 54, none⟩ = some (.int .u8 (byt b 54 : Nat)) := u2.cell 54 (by omega)
       have c55 : w2.cell? ⟨gb, 55, none⟩ = some (.int .u8 (byt b 55 : Nat)) := u2.cell 55 (by omega)
       have d60 := u2.bs0 60 64 (by omega) (by omega) (by decide))
    | (go_at_call 58; refine (may_any _ _).mono ?_; rintro e w3 ⟨rfl, rfl⟩; rw [hk])
    | (go_at_call 136; have _t := tok; refine (rget32_56 gb b.l _ u2 hb).mono ?_; rintro e w3 ⟨rfl, rfl⟩; clear _t tok)
    | (go_at_call 136; refine (rget32_60 gb b.l _ u2 hb).mono ?_; rintro e w3 ⟨rfl, rfl⟩)
    | (go_at_call 60; refine (rof_anyK _ 60 64 _ w2 d60).mono ?_; rintro e w7 ⟨rfl, rfl⟩)
    | (refine at_bldL (by rfl) (by rfl) ?_)
    | (refine at_new 62 54 arrL (by rfl) (by rfl) ?_; intro gp w4 a4 z4 r4 b4)
    | (refine at_put 62 54 arrL (by rfl) _ _ (by rfl) gp (by rfl) Ld.zero.l (by rfl) Ld.zero.len _ r4 (by simp) ?_; intro w5 r5 s5))
  have u5 : Row w5 gb b.l := ((u2.later b4).step s5 (by omega))
  have q5 : Row w5 gr (List.replicate 54 0) := ((r2.later b4).step s5 (by omega))
  have S5 : Stp (fun x => w.heap.size ≤ x) w w5 := (Stp.of_below (bnext (bnext b1 b2 (Nat.le_refl _)) b4 (Nat.le_refl _)) _).next s5 (fun x hx => .inl (by subst hx; have := b1.size; have := b2.size; omega))
  have hgr : w.heap.size ≤ gr := by have := b1.size; omega
  have hgp : w.heap.size ≤ gp := by have := b1.size; have := b2.size; omega
  have n1 : gb ≠ gp := by omega
  have n2 : gr ≠ gp := by omega
  have m0 : Row w5 gp (mix b.l 0) := r5
  clear r1 b1 a1 z1 r2 b2 a2 z2 u2 c54 c55 d60 a4 z4 r4 b4 r5 s5 e1 e2 e3
  go_loopw [12] (fun i wr => ∃ k : Nat, k ≤ 54 ∧ i = .int .i64 k ∧ Row wr gp (mix b.l k) ∧ Stp (fun x => x = gp) w5 wr) (fun i _ => 54 - (intOf i).toNat)
  case atStart => exact ⟨0, Nat.zero_le _, rfl, m0, Stp.refl _ _⟩
  case round =>
    obtain ⟨k, hk4, rfl, mk, sk⟩ := hrel
    by_cases hlt : k < 54
    · have c1 : _ = some (Value.int .u8 _) := (u5.step sk n1).cell k (by omega)
      have c2 := mk.cell k (by rw [mix_len hb hk4]; exact hlt)
      have f2 := mk.frozen k
      have mk' := mk.set k (b.l.getD k 0)
      rw [mix_set hb hlt] at mk'
      generalize hv : (((b.l.getD k 0).toNat : Nat) : Int) = v at *
      clear hv
      go_wp2_with fail
      go_roundw
      case rel => exact ⟨k + 1, by omega, by go_num, mk', sk.setCell (.inl rfl) _⟩
      case measure => simp [intOf]; omega
    · obtain rfl : k = 54 := by omega
      rw [mix_all] at mk
      have qk := q5.step sk n2
      have hlp := (ldOf b).len
      have Sk := S5.next sk (fun x hx => .inl (by subst hx; exact hgp))
      go_wp2_with (first
        | (refine at_get 62 54 arrL (by rfl) _ (by rfl) gp (by rfl) _ mk hlp ?_)
        | (refine at_put 62 54 arrL (by rfl) _ _ (by rfl) gr (by rfl) (ldOf b).l (by rfl) hlp _ qk (by simp) ?_; intro w9 r9 s9))
      refine bodyPost_ret (retAtt arrL Tryz.results112 rfl rfl rfl r9 hlp) rfl ⟨by obtain ⟨q1, q2, q3⟩ := hE.out; rw [q1, q2, q3]; rfl, (Sk.next s9 (fun x hx => .inl (by subst hx; exact hgr))).below (Nat.le_refl _) (fun _ h => h)⟩
set_option maxRecDepth 100000
set_option maxRecDepth 100000 in
set_option maxHeartbeats 1000000 in
theorem rget_e3 (n : Nat) (b : Blk) (w : World) (h1 : 1 ≤ n) (h6 : n ≤ 6) (hE : Hid (gP n b = Ld.zero ∧ gT n b = 0 ∧ gES n b = 21)) (e1 : ((byt b 54 : Int) != (n : Int)) = false) (e2 : ((byt b 55 : Int) != 255 - (n : Int)) = false) (e3 : ((get4 b.l 60 : Int) != (sumOf (ints (b.l.take 60)) : Int)) = true) :
    Calls Tryz.prog 112 #[.int .i64 (n : Int), .agg b.cs.toArray] w fun e w' => e = .returned (.tuple #[.agg (gP n b).cs.toArray, .int .u32 (gT n b : Nat), .int .i64 (gES n b)]) ∧ Below w.heap.size w w' := by
  have hb := b.len
  have hk := isK_of h1 h6
  have l54 := byt_lt b 54
  have l55 := byt_lt b 55
  have l60 := get4_lt b.l 60
  have lsm := sum_lt (ints (b.l.take 60))
  have tok : True := trivial
  go_enter Tryz.func112, Tryz.ntmps112
  go_wp2_with (first
    | (refine at_box 88 64 arrB (by rfl) _ (by rfl) b.l (by rfl) hb ?_; intro gb w1 a1 z1 r1 b1)
    | (refine at_new 62 54 arrL (by rfl) (by rfl) ?_; intro gr w2 a2 z2 r2 b2
       have u2 : Row w2 gb b.l := r1.later b2
       have c54 : w2.cell? ⟨gb, 54, none⟩ = some (.int .u8 (byt b 54 : Nat)) := u2.cell 54 (by omega)
       have c55 : w2.cell? ⟨gb, 55, none⟩ = some (.int .u8 (byt b 55 : Nat)) := u2.cell 55 (by omega)
       have d60 := u2.bs0 60 64 (by omega) (by omega) (by decide))
    | (go_at_call 58; refine (may_any _ _).mono ?_; rintro e w3 ⟨rfl, rfl⟩; rw [hk])
    | (go_at_call 136; have _t := tok; refine (rget32_56 gb b.l _ u2 hb).mono ?_; rintro e w3 ⟨rfl, rfl⟩; clear _t tok)
    | (go_at_call 136; refine (rget32_60 gb b.l _ u2 hb).mono ?_; rintro e w3 ⟨rfl, rfl⟩)
    | (go_at_call 60; refine (rof_anyK _ 60 64 _ w2 d60).mono ?_; rintro e w7 ⟨rfl, rfl⟩)
    | (refine at_bldL (by rfl) (by rfl) ?_)
    | (refine at_put 62 54 arrL (by rfl) _ _ (by rfl) gr (by rfl) Ld.zero.l (by rfl) Ld.zero.len _ r2 (by simp) ?_; intro w9 r9 s9))
  have S2 : Stp (fun x => w.heap.size ≤ x) w w2 := Stp.of_below (bnext b1 b2 (Nat.le_refl _)) _
  have hgr : w.heap.size ≤ gr := by have := b1.size; omega
  refine bodyPost_ret (retAtt arrL Tryz.results112 rfl rfl rfl r9 Ld.zero.len) rfl ⟨by obtain ⟨q1, q2, q3⟩ := hE.out; rw [q1, q2, q3]; rfl, (S2.next s9 (fun x hx => .inl (by subst hx; exact hgr))).below (Nat.le_refl _) (fun _ h => h)⟩
set_option maxRecDepth 100000 in
set_option maxHeartbeats 1000000 in
theorem rget_e2 (n : Nat) (b : Blk) (w : World) (h1 : 1 ≤ n) (h6 : n ≤ 6) (hE : Hid (gP n b = Ld.zero ∧ gT n b = 0 ∧ gES n b = 21)) (e1 : ((byt b 54 : Int) != (n : Int)) = false) (e2 : ((byt b 55 : Int) != 255 - (n : Int)) = true) :
    Calls Tryz.prog 112 #[.int .i64 (n : Int), .agg b.cs.toArray] w fun e w' => e = .returned (.tuple #[.agg (gP n b).cs.toArray, .int .u32 (gT n b : Nat), .int .i64 (gES n b)]) ∧ Below w.heap.size w w' := by
  have hb := b.len
  have hk := isK_of h1 h6
  have l54 := byt_lt b 54
  have l55 := byt_lt b 55
  have l60 := get4_lt b.l 60
  have lsm := sum_lt (ints (b.l.take 60))
  have tok : True := trivial
  go_enter Tryz.func112, Tryz.ntmps112
  go_wp2_with (first
    | (refine at_box 88 64 arrB (by rfl) _ (by rfl) b.l (by rfl) hb ?_; intro gb w1 a1 z1 r1 b1)
    | (refine at_new 62 54 arrL (by rfl) (by rfl) ?_; intro gr w2 a2 z2 r2 b2
       have u2 : Row w2 gb b.l := r1.later b2
       have c54 : w2.cell? ⟨gb, 54, none⟩ = some (.int .u8 (byt b 54 : Nat)) := u2.cell 54 (by omega)
       have c55 : w2.cell? ⟨gb, 55, none⟩ = some (.int .u8 (byt b 55 : Nat)) := u2.cell 55 (by omega)
       have d60 := u2.bs0 60 64 (by omega) (by omega) (by decide))
    | (go_at_call 58; refine (may_any _ _).mono ?_; rintro e w3 ⟨rfl, rfl⟩; rw [hk])
    | (go_at_call 136; have _t := tok; refine (rget32_56 gb b.l _ u2 hb).mono ?_; rintro e w3 ⟨rfl, rfl⟩; clear _t tok)
    | (go_at_call 136; refine (rget32_60 gb b.l _ u2 hb).mono ?_; rintro e w3 ⟨rfl, rfl⟩)
    | (go_at_call 60; refine (rof_anyK _ 60 64 _ w2 d60).mono ?_; rintro e w7 ⟨rfl, rfl⟩)
    | (refine at_bldL (by rfl) (by rfl) ?_)
    | (refine at_put 62 54 arrL (by rfl) _ _ (by rfl) gr (by rfl) Ld.zero.l (by rfl) Ld.zero.len _ r2 (by simp) ?_; intro w9 r9 s9))
  have S2 : Stp (fun x => w.heap.size ≤ x) w w2 := Stp.of_below (bnext b1 b2 (Nat.le_refl _)) _
  have hgr : w.heap.size ≤ gr := by have := b1.size; omega
  refine bodyPost_ret (retAtt arrL Tryz.results112 rfl rfl rfl r9 Ld.zero.len) rfl ⟨by obtain ⟨q1, q2, q3⟩ := hE.out; rw [q1, q2, q3]; rfl, (S2.next s9 (fun x hx => .inl (by subst hx; exact hgr))).below (Nat.le_refl _) (fun _ h => h)⟩
set_option maxRecDepth 100000 in
set_option maxHeartbeats 1000000 in
theorem rget_e1 (n : Nat) (b : Blk) (w : World) (h1 : 1 ≤ n) (h6 : n ≤ 6) (hE : Hid (gP n b = Ld.zero ∧ gT n b = 0 ∧ gES n b = 21)) (e1 : ((byt b 54 : Int) != (n : Int)) = true) :
    Calls Tryz.prog 112 #[.int .i64 (n : Int), .agg b.cs.toArray] w fun e w' => e = .returned (.tuple #[.agg (gP n b).cs.toArray, .int .u32 (gT n b : Nat), .int .i64 (gES n b)]) ∧ Below w.heap.size w w' := by
  have hb := b.len
  have hk := isK_of h1 h6
  have l54 := byt_lt b 54
  have l55 := byt_lt b 55
  have l60 := get4_lt b.l 60
  have lsm := sum_lt (ints (b.l.take 60))
  have tok : True := trivial
  go_enter Tryz.func112, Tryz.ntmps112
  go_wp2_with (first
    | (refine at_box 88 64 arrB (by rfl) _ (by rfl) b.l (by rfl) hb ?_; intro gb w1 a1 z1 r1 b1)
    | (refine at_new 62 54 arrL (by rfl) (by rfl) ?_; intro gr w2 a2 z2 r2 b2
       have u2 : Row w2 gb b.l := r1.later b2
       have c54 : w2.cell? ⟨gb, 54, none⟩ = some (.int .u8 (byt b 54 : Nat)) := u2.cell 54 (by omega)
       have c55 : w2.cell? ⟨gb, 55, none⟩ = some (.int .u8 (byt b 55 : Nat)) := u2.cell 55 (by omega)
       have d60 := u2.bs0 60 64 (by omega) (by omega) (by decide))
    | (go_at_call 58; refine (may_any _ _).mono ?_; rintro e w3 ⟨rfl, rfl⟩; rw [hk])
    | (go_at_call 136; have _t := tok; refine (rget32_56 gb b.l _ u2 hb).mono ?_; rintro e w3 ⟨rfl, rfl⟩; clear _t tok)
    | (go_at_call 136; refine (rget32_60 gb b.l _ u2 hb).mono ?_; rintro e w3 ⟨rfl, rfl⟩)
    | (go_at_call 60; refine (rof_anyK _ 60 64 _ w2 d60).mono ?_; rintro e w7 ⟨rfl, rfl⟩)
    | (refine at_bldL (by rfl) (by rfl) ?_)
    | (refine at_put 62 54 arrL (by rfl) _ _ (by rfl) gr (by rfl) Ld.zero.l (by rfl) Ld.zero.len _ r2 (by simp) ?_; intro w9 r9 s9))
  have S2 : Stp (fun x => w.heap.size ≤ x) w w2 := Stp.of_below (bnext b1 b2 (Nat.le_refl _)) _
  have hgr : w.heap.size ≤ gr := by have := b1.size; omega
  refine bodyPost_ret (retAtt arrL Tryz.results112 rfl rfl rfl r9 Ld.zero.len) rfl ⟨by obtain ⟨q1, q2, q3⟩ := hE.out; rw [q1, q2, q3]; rfl, (S2.next s9 (fun x hx => .inl (by subst hx; exact hgr))).below (Nat.le_refl _) (fun _ h => h)⟩
theorem rget_else (n : Nat) (b : Blk) (w : World) (h1 : 1 ≤ n) (h6 : n ≤ 6) (hx : oKS b ≠ n) :
    Calls Tryz.prog 112 #[.int .i64 (n : Int), .agg b.cs.toArray] w fun e w' => e = .returned (.tuple #[.agg (gP n b).cs.toArray, .int .u32 (gT n b : Nat), .int .i64 (gES n b)]) ∧ Below w.heap.size w w' := by
  have hk := isK_of h1 h6
  have he : gES n b = 21 := by unfold gES; rw [hk, if_pos rfl, if_neg (by omega)]
  have hE : Hid (gP n b = Ld.zero ∧ gT n b = 0 ∧ gES n b = 21) := ⟨by unfold gP; rw [he]; rfl, by unfold gT; rw [he]; rfl, he⟩
  have hno : ¬ (byt b 54 = n ∧ byt b 55 = 255 - n ∧ get4 b.l 60 = sumOf (ints (b.l.take 60))) := fun h => hx ((right_is b n h1 h6).1 h)
  have l54 := byt_lt b 54
  cases e1 : ((byt b 54 : Int) != (n : Int))
  · cases e2 : ((byt b 55 : Int) != 255 - (n : Int))
    · cases e3 : ((get4 b.l 60 : Int) != (sumOf (ints (b.l.take 60)) : Int))
      · exfalso
        rw [bne_eq_false_iff_eq] at e1 e2 e3
        omega
      · exact rget_e3 n b w h1 h6 hE e1 e2 e3
    · exact rget_e2 n b w h1 h6 hE e1 e2
  · exact rget_e1 n b w h1 h6 hE e1
theorem rget_anyS (k : Int) (b : Blk) (w : World) :
    Calls Tryz.prog 112 #[.int .i64 k, .agg b.cs.toArray] w fun e w' => e = .returned (.tuple #[.agg (gP k b).cs.toArray, .int .u32 (gT k b : Nat), .int .i64 (gES k b)]) ∧ Below w.heap.size w w' := by
  cases hk : isK k
  · exact rget_no k b w hk
  · obtain ⟨n, rfl, h1, h6⟩ := isK_nat hk
    by_cases hx : oKS b = n
    · exact rget_right n b w h1 h6 hx
    · exact rget_else n b w h1 h6 hx
set_option maxRecDepth 100000
theorem gE_yes {b : Blk} {k : Nat} (h1 : 1 ≤ k) (h6 : k ≤ 6) (h : oKS b = k) : gES (k : Int) b = 0 := by unfold gES; rw [isK_of h1 h6, if_pos rfl, if_pos (by omega)]
theorem oT_none {b : Blk} (h : oKS b = 0) : oT b = 0 := by
  unfold oT
  split
  · rename_i hr
    have : oKS b = byt b 54 := by unfold oKS; rw [hr]; rfl
    unfold rightB isK at hr
    simp at hr; omega
  · rfl
theorem gT_own {b : Blk} (h : oKS b ≠ 0) : gT (oKS b : Nat) b = oT b := by
  have := oK_lt b
  unfold gT; rw [gE_yes (by omega) (by omega) rfl]; rfl
end Go.Proofs.YtgdnhkdfcjpdiaaGreatDoor
