/-
  What the document's Put of layer 7 returns, for every input: no statement is proved here.
-/
import Derived.Test.YteceapdkgidenaaSealF
namespace Go.Proofs.Yteceapdkgidenaa
open Go.ChangeShapes Go.WideShapes Go.ChangeAt Go.RowKit
set_option linter.unusedVariables false

theorem cells_kk {n : Nat} (h : n ≤ 6) : cells [UInt8.ofNat n, UInt8.ofNat (255 - n)] = [.int .u8 (n : Int), .int .u8 (255 - (n : Int))] := by
  unfold cells
  simp only [List.map_cons, List.map_nil, Extern.Stop.cell]
  rw [u8_to (by omega), u8_to (by omega), show Int.ofNat (255 - n) = 255 - (n : Int) from by have : Int.ofNat (255 - n) = ((255 - n : Nat) : Int) := rfl; omega]
  rfl
theorem news_row (w : World) (l : List UInt8) (t : TypeId) (cs : List Value) (h : cells l = cs) : ∀ j u, (cells l)[j]? = some u → (w.alloc (.cells cs.toArray t)).cell? ((⟨w.heap.size, 0, none⟩ : Addr).add j) = some u := by
  subst h
  intro j u hj
  rw [Addr.add_mid]
  exact (Row.made w l t).range j u hj
set_option maxRecDepth 100000 in
set_option maxHeartbeats 2000000 in
theorem rput_any (k : Int) (t : Nat) (p : Ld) (w : World) (ht : t < 4294967296) :
    Calls Try.prog 32 #[.int .i64 k, .int .u32 (t : Int), .agg p.cs.toArray] w fun e w' => e = .returned (.tuple #[.agg (pB k t p).cs.toArray, .int .i64 (pE k)]) ∧ Below w.heap.size w w' := by
  have hp := p.len
  cases hk : isK k
  · have hE : Hid (pB k t p = Blk.zero ∧ pE k = 2) := ⟨by unfold pB; rw [hk]; rfl, by unfold pE; rw [hk]; rfl⟩
    go_enter Try.func32, Try.ntmps32
    go_wp2_with (first
      | (refine at_box 35 54 arrL (by rfl) _ (by rfl) p.l (by rfl) hp ?_; intro g1 w1 a1 z1 r1 b1)
      | (refine at_new 23 64 arrB (by rfl) (by rfl) ?_; intro gr w2 a2 z2 r2 b2)
      | (go_at_call 42; refine (may_any _ _).mono ?_; rintro e w3 ⟨rfl, rfl⟩; rw [hk])
      | (refine at_bldB (by rfl) (by rfl) ?_)
      | (refine at_put 23 64 arrB (by rfl) _ _ (by rfl) gr (by rfl) Blk.zero.l (by rfl) Blk.zero.len _ r2 (by simp) ?_; intro w9 r9 s9))
    have S2 : Stp (fun x => w.heap.size ≤ x) w w2 := Stp.of_below (bnext b1 b2 (Nat.le_refl _)) _
    have hgr : w.heap.size ≤ gr := by have := b1.size; omega
    refine bodyPost_ret (retAt arrB Try.results32 rfl rfl r9 Blk.zero.len) rfl ⟨by obtain ⟨q1, q2⟩ := hE.out; rw [q1, q2]; rfl, (S2.next s9 (fun x hx => .inl (by subst hx; exact hgr))).below (Nat.le_refl _) (fun _ h => h)⟩
  · obtain ⟨n, rfl, h1, h6⟩ := isK_nat hk
    have hE : Hid (pB n t p = sealK n t p ∧ pE n = 0) := ⟨by unfold pB; rw [hk]; rfl, by unfold pE; rw [hk]; rfl⟩
    have hlb := (sealK n t p).len
    go_enter Try.func32, Try.ntmps32
    have t1 : True := trivial
    have t2 : True := trivial
    have t3 : True := trivial
    have hsum : sumOf (ints (hdL n t p.l)) < 4294967296 := by have := sum_lt (ints (hdL n t p.l)); omega
    have hS : Hid ((p.l ++ [UInt8.ofNat n, UInt8.ofNat (255 - n)]) ++ u4 t = hdL n t p.l) := by show _ = _; unfold hdL; rw [List.append_assoc]
    have hT : Hid (hdL n t p.l ++ u4 (sumOf (ints (hdL n t p.l))) = (sealK n t p).l) := rfl
    have hh : (hdL n t p.l).length = 60 := by unfold hdL; simp [hp, u4]
    generalize hD : hdL n t p.l = D at *
    generalize hq : sumOf (ints D) = S at *
    go_wp2_with (first
      | (refine at_box 35 54 arrL (by rfl) _ (by rfl) p.l (by rfl) hp ?_; intro g1 w1 a1 z1 r1 b1)
      | (refine at_new 23 64 arrB (by rfl) (by rfl) ?_; intro gr w2 a2 z2 r2 b2)
      | (go_at_call 42; refine (may_any _ _).mono ?_; rintro e w3 ⟨rfl, rfl⟩; rw [hk])
      | (have _t := t1; at_builtin; refine at_app (B := w2.heap.size) rfl _ _ rfl 0 rfl (Own.made w2 (Nat.le_refl _)) rfl ⟨g1, 0, none⟩ 54 54 p.l rfl hp 54 rfl (fun j u hj => by rw [Addr.add_mid]; exact (((r1.later b2).later ((Below.refl _ w2).alloc (Nat.le_refl _) (Obj.cells #[] 5))).range j u hj)) (by simp; omega) (by simp) ?_
         intro g3 c3 w3 o3 s3; rw [List.nil_append] at o3; clear _t t1)
      | (have _t := t2; at_builtin; refine at_app (B := w2.heap.size) rfl _ _ rfl 54 rfl (o3.later ((Below.refl _ w3).alloc (Nat.le_refl _) _)) hp ⟨w3.heap.size, 0, none⟩ 2 2 [UInt8.ofNat n, UInt8.ofNat (255 - n)] rfl rfl 56 rfl (news_row w3 _ 5 _ (cells_kk h6)) (by simp; omega) (by have := s3.size; simp at this ⊢; omega) ?_
         intro g4 c4 w4 o4 s4; clear _t t2)
      | (go_at_call 47; have _t := t3; refine (rput32_any (t : Int) w4 (by omega) (by omega)).mono ?_; rintro e w5 ⟨rfl, rfl⟩)
      | (have _t := t3; at_builtin; refine at_app (B := w2.heap.size) rfl _ _ rfl 56 rfl (o4.later ((Below.refl _ w4).alloc (Nat.le_refl _) _)) (by simp [hp]) ⟨w4.heap.size, 0, none⟩ 4 4 (u4 t) rfl rfl 60 rfl (news_row w4 _ 5 _ (cells_u4 ht)) (by simp [hp, u4]) (by have := s3.size; have := s4.size; simp at *; omega) ?_
         intro g6 c6 w6 o6 s6; rw [hS.out] at o6; have d6 := o6.bs; rw [hh] at d6; clear _t t3)
      | (go_at_call 44; refine (rof_any _ 60 c6 _ w6 d6).mono ?_; rintro e w7 ⟨rfl, rfl⟩; rw [hq])
      | (go_at_call 47; refine (rput32_any (S : Int) w6 (by omega) (by omega)).mono ?_; rintro e w8 ⟨rfl, rfl⟩)
      | (at_builtin; refine at_app (B := w2.heap.size) rfl _ _ rfl 60 rfl (o6.later ((Below.refl _ w6).alloc (Nat.le_refl _) _)) hh ⟨w6.heap.size, 0, none⟩ 4 4 (u4 S) rfl rfl 64 rfl (news_row w6 _ 5 _ (cells_u4 hsum)) (by simp [hh, u4]) (by have := s3.size; have := s4.size; have := s6.size; simp at *; omega) ?_
         intro g8 c8 w8 o8 s8; rw [hT.out] at o8
         have q8 : Row w8 gr (List.replicate 64 0) := ((((((r2.later ((Below.refl _ w2).alloc (Nat.le_refl _) _)).step s3 (by omega)).later ((Below.refl _ w3).alloc (Nat.le_refl _) _)).step s4 (by omega)).later ((Below.refl _ w4).alloc (Nat.le_refl _) _)).step s6 (by omega)).later ((Below.refl _ w6).alloc (Nat.le_refl _) _) |>.step s8 (by omega))
      | (refine at_arr 23 64 arrB (by rfl) _ (by rfl) _ 64 c8 (by rfl) (Nat.le_refl _) ?_)
      | (refine at_getR 23 64 arrB (by rfl) _ (by rfl) g8 (by rfl) _ o8.range hlb ?_)
      | (refine at_put 23 64 arrB (by rfl) _ _ (by rfl) gr (by rfl) (sealK n t p).l (by rfl) hlb _ q8 (by simp) ?_; intro w9 r9 s9))
    have F2 : ∀ (x : Nat), w2.heap.size ≤ x → w.heap.size ≤ x := fun x hx => by have := b1.size; have := b2.size; omega
    have S2 : Stp (fun x => w.heap.size ≤ x) w w2 := Stp.of_below (bnext b1 b2 (Nat.le_refl _)) _
    have S8 : Stp (fun x => w.heap.size ≤ x) w w8 := ((((((((S2.alloc _).next s3 (fun x h => .inl (F2 x h))).alloc _).next s4 (fun x h => .inl (F2 x h))).alloc _).next s6 (fun x h => .inl (F2 x h))).alloc _).next s8 (fun x h => .inl (F2 x h)))
    have hgr : w.heap.size ≤ gr := by have := b1.size; omega
    refine bodyPost_ret (retAt arrB Try.results32 rfl rfl r9 hlb) rfl ⟨by obtain ⟨q1, q2⟩ := hE.out; rw [q1, q2]; rfl, (S8.next s9 (fun x hx => .inl (by subst hx; exact hgr))).below (Nat.le_refl _) (fun _ h => h)⟩
end Go.Proofs.Yteceapdkgidenaa
