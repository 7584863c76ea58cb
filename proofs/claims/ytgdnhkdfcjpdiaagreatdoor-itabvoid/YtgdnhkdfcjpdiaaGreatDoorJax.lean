/-
  Texts of my own, joined: no statement is proved here.
-/
import Derived.Test.YtgdnhkdfcjpdiaaGreatDoorJai
set_option linter.unusedSimpArgs false
set_option linter.unusedVariables false
namespace Go.Proofs.YtgdnhkdfcjpdiaaGreatDoor
open Go.ChangeShapes Go.WideShapes Go.ChangeAt Go.RowKit
set_option maxRecDepth 100000
theorem isKind_any (n : Int) (w : World) : Calls Tryz.prog 65 #[.int .i64 n] w fun e w' => e = .returned (.bool (isK n)) ∧ w = w' := by
  unfold isK
  by_cases h : 1 ≤ n
  · by_cases h' : n ≤ 6
    all_goals
      go_enter Tryz.func65, Tryz.ntmps65
      go_wp2
      go_returns
      refine ⟨ret_bool ?_, rfl⟩
      simp; omega
  · go_enter Tryz.func65, Tryz.ntmps65
    go_wp2
    go_returns
    refine ⟨ret_bool ?_, rfl⟩
    simp; omega
theorem may_any (n : Int) (w : World) : Calls Tryz.prog 58 #[.int .i64 n] w fun e w' => e = .returned (.bool (isK n)) ∧ w = w' := by
  unfold isK
  by_cases h : 1 ≤ n
  · by_cases h' : n ≤ 6
    all_goals
      go_enter Tryz.func58, Tryz.ntmps58
      go_wp2
      go_returns
      refine ⟨ret_bool ?_, rfl⟩
      simp; omega
  · go_enter Tryz.func58, Tryz.ntmps58
    go_wp2
    go_returns
    refine ⟨ret_bool ?_, rfl⟩
    simp; omega
theorem cells_u4 {x : Nat} (h : x < 4294967296) : cells (u4 x) = [.int .u8 ((x : Int) % 256), .int .u8 ((x : Int) / 256 % 256), .int .u8 ((x : Int) / 65536 % 256), .int .u8 ((x : Int) / 16777216)] := by
  have e : cells (u4 x) = (ints (u4 x)).map (Value.int .u8) := by unfold cells ints; rw [List.map_map]; rfl
  rw [e, ints_u4 h]; rfl
theorem putAt_56 (g x : Nat) (l : List UInt8) (w : World) (hR : Row w g l) (hl : l.length = 64) (hx : x < 4294967296) :
    Calls Tryz.prog 126 #[.pointer (some ⟨g, 0, none⟩), .int .i64 56, .int .u32 (x : Int)] w fun e w' => e = .returned (.tuple #[]) ∧ Row w' g (splice l 56 (u4 x)) ∧ Stp (fun y => y = g) w w' := by
  go_enter Tryz.func126, Tryz.ntmps126
  go_wp2_with (go_at_call 100; refine (put32_any (x : Int) w (by omega) (by omega)).mono ?_; rintro e w1 ⟨rfl, b1⟩)
  have r2 := Row.made w1 (u4 x) 206
  rw [cells_u4 hx] at r2
  have b2 : Below w.heap.size w (w1.alloc (Obj.cells #[Value.int IntKind.u8 ((x : Int) % 256), Value.int IntKind.u8 ((x : Int) / 256 % 256), Value.int IntKind.u8 ((x : Int) / 65536 % 256), Value.int IntKind.u8 ((x : Int) / 16777216)] 206)) := b1.alloc b1.size _
  have hG : g < w1.heap.size := Nat.lt_of_lt_of_le hR.lt b1.size
  have hR2 := hR.later b2
  generalize w1.alloc (Obj.cells #[Value.int IntKind.u8 ((x : Int) % 256), Value.int IntKind.u8 ((x : Int) / 256 % 256), Value.int IntKind.u8 ((x : Int) / 65536 % 256), Value.int IntKind.u8 ((x : Int) / 16777216)] 206) = w2 at *
  generalize w1.heap.size = g2 at *
  go_region_law (refine step_copyR rfl (.tmp 12) (.tmp 13) rfl g 56 8 8 g2 4 4 (by simp [Act.eval, Act.put]) (by simp [Act.eval, Act.put]) l (u4 x) (hR2.later (by go_grown)) (r2.later (by go_grown)) (by omega) (by omega) (Nat.le_refl 4) ?_; intro w3 r3 s3)
  go_wp2
  go_returns
  exact ⟨rfl, r3, (Stp.of_below b2 _).drew.next s3 (fun _ h => .inl h)⟩
theorem putAt_60 (g x : Nat) (l : List UInt8) (w : World) (hR : Row w g l) (hl : l.length = 64) (hx : x < 4294967296) :
    Calls Tryz.prog 126 #[.pointer (some ⟨g, 0, none⟩), .int .i64 60, .int .u32 (x : Int)] w fun e w' => e = .returned (.tuple #[]) ∧ Row w' g (splice l 60 (u4 x)) ∧ Stp (fun y => y = g) w w' := by
  go_enter Tryz.func126, Tryz.ntmps126
  go_wp2_with (go_at_call 100; refine (put32_any (x : Int) w (by omega) (by omega)).mono ?_; rintro e w1 ⟨rfl, b1⟩)
  have r2 := Row.made w1 (u4 x) 206
  rw [cells_u4 hx] at r2
  have b2 : Below w.heap.size w (w1.alloc (Obj.cells #[Value.int IntKind.u8 ((x : Int) % 256), Value.int IntKind.u8 ((x : Int) / 256 % 256), Value.int IntKind.u8 ((x : Int) / 65536 % 256), Value.int IntKind.u8 ((x : Int) / 16777216)] 206)) := b1.alloc b1.size _
  have hG : g < w1.heap.size := Nat.lt_of_lt_of_le hR.lt b1.size
  have hR2 := hR.later b2
  generalize w1.alloc (Obj.cells #[Value.int IntKind.u8 ((x : Int) % 256), Value.int IntKind.u8 ((x : Int) / 256 % 256), Value.int IntKind.u8 ((x : Int) / 65536 % 256), Value.int IntKind.u8 ((x : Int) / 16777216)] 206) = w2 at *
  generalize w1.heap.size = g2 at *
  go_region_law (refine step_copyR rfl (.tmp 12) (.tmp 13) rfl g 60 4 4 g2 4 4 (by simp [Act.eval, Act.put]) (by simp [Act.eval, Act.put]) l (u4 x) (hR2.later (by go_grown)) (r2.later (by go_grown)) (by omega) (by omega) (Nat.le_refl 4) ?_; intro w3 r3 s3)
  go_wp2
  go_returns
  exact ⟨rfl, r3, (Stp.of_below b2 _).drew.next s3 (fun _ h => .inl h)⟩
theorem lay_seal (k t s : Nat) (p Z : List UInt8) (hp : p.length = 54) (hZ : Z.length = 64) :
    (splice (((splice Z 0 p).set 54 (UInt8.ofNat k)).set 55 (UInt8.ofNat (255 - k))) 56 (u4 t)).take 60 = hdL k t p ∧
    splice (splice (((splice Z 0 p).set 54 (UInt8.ofNat k)).set 55 (UInt8.ofNat (255 - k))) 56 (u4 t)) 60 (u4 s) = hdL k t p ++ u4 s := by
  obtain ⟨q, a0, a1, a2, a3, a4, a5, a6, a7, a8, a9, hq, rfl⟩ := split64 Z hZ
  have e1 : splice (q ++ [a0, a1, a2, a3, a4, a5, a6, a7, a8, a9]) 0 p = p ++ [a0, a1, a2, a3, a4, a5, a6, a7, a8, a9] := by
    unfold splice; rw [List.take_zero, List.nil_append, hp, List.drop_append, hq, List.drop_of_length_le (by omega)]; rfl
  have e2 : (p ++ [a0, a1, a2, a3, a4, a5, a6, a7, a8, a9]).set 54 (UInt8.ofNat k) = p ++ [UInt8.ofNat k, a1, a2, a3, a4, a5, a6, a7, a8, a9] := by
    rw [List.set_append_right _ _ (by omega), hp]; rfl
  have e3 : (p ++ [UInt8.ofNat k, a1, a2, a3, a4, a5, a6, a7, a8, a9]).set 55 (UInt8.ofNat (255 - k)) = p ++ [UInt8.ofNat k, UInt8.ofNat (255 - k), a2, a3, a4, a5, a6, a7, a8, a9] := by
    rw [List.set_append_right _ _ (by omega), hp]; rfl
  have e4 : splice (p ++ [UInt8.ofNat k, UInt8.ofNat (255 - k), a2, a3, a4, a5, a6, a7, a8, a9]) 56 (u4 t) = p ++ ([UInt8.ofNat k, UInt8.ofNat (255 - k)] ++ (u4 t ++ [a6, a7, a8, a9])) := by
    unfold splice
    rw [u4_len, List.take_append, List.drop_append, hp, List.drop_of_length_le (by omega), List.take_of_length_le (by omega)]
    simp
  have e5 : (p ++ ([UInt8.ofNat k, UInt8.ofNat (255 - k)] ++ (u4 t ++ [a6, a7, a8, a9]))).take 60 = hdL k t p := by
    rw [List.take_append, hp, List.take_of_length_le (by omega)]; rfl
  rw [e1, e2, e3, e4]
  refine ⟨e5, ?_⟩
  unfold splice
  rw [e5, u4_len, List.drop_append, hp, List.drop_of_length_le (by omega)]
  simp [u4]
theorem splice_len (l : List UInt8) (o : Nat) (c : List UInt8) (n : Nat) (hl : l.length = n) (h : o + c.length ≤ n) : (splice l o c).length = n := by rw [length_splice l o c (by omega)]; exact hl
theorem of1_any {W : World} {a : Option Addr} {n c G : Nat} {l : List Int} (e : TypeId) (hG : W.heap.size = G) (h : Bs W a n c l) (hn : n ≤ 1000000000000) :
    Calls Tryz.prog 127 #[.slice (some ⟨G, 0, none⟩) 1 1] (W.alloc (.cells #[.slice a n c] e)) fun e' w' => e' = .returned (.int .u32 (sumOf l : Nat)) ∧ Below W.heap.size W w' := by
  subst hG
  have hb : Bss (W.alloc (.cells #[.slice a n c] e)) (some ⟨W.heap.size, 0, none⟩) 1 1 [l] :=
    bss_alloc W e [.slice a n c] [l] rfl (by unfold maxLen; simp) fun i hi => by
      obtain rfl : i = 0 := by simp at hi; omega
      exact ⟨_, _, _, rfl, h⟩
  refine (of_anyK _ 1 1 [l] _ hb (by have := h.len; simp; omega)).mono ?_
  rintro e' w' ⟨rfl, b⟩
  refine ⟨by simp, ?_⟩
  exact bnext ((Below.refl _ _).alloc (Nat.le_refl _) _) b (Nat.le_refl _)
set_option maxRecDepth 100000 in
theorem sealed_any (k t : Nat) (p : Ld) (w : World) (h1 : 1 ≤ k) (h6 : k ≤ 6) (ht : t < 4294967296) :
    Calls Tryz.prog 90 #[.int .i64 (k : Int), .int .u32 (t : Int), .agg p.cs.toArray] w fun e w' => e = .returned (.agg (sealK k t p).cs.toArray) ∧ Below w.heap.size w w' := by
  have hp := p.len
  have hls := lay_seal k t (sumOf (ints (hdL k t p.l))) p.l (List.replicate 64 0) hp (by simp)
  have tok : True := trivial
  go_enter Tryz.func90, Tryz.ntmps90
  go_wp2_with (first
    | (refine at_box 62 54 arrL (by rfl) _ (by rfl) p.l (by rfl) hp ?_; intro g1 w1 a1 z1 r1 b1)
    | (have _t := tok; refine at_new 88 64 arrB (by rfl) (by rfl) ?_; intro gr wr ar zr rr br; clear _t tok)
    | (refine at_new 88 64 arrB (by rfl) (by rfl) ?_; intro g2 w2 a2 z2 r2 b2))
  have p2 := (r1.later br).later b2
  have q2 := rr.later b2
  have B2 : Below w.heap.size w w2 := bnext (bnext b1 br (Nat.le_refl _)) b2 (Nat.le_refl _)
  have hn : gr ≠ g2 := by omega
  have hge : w.heap.size ≤ g2 := by have := b1.size; have := br.size; omega
  have hgr : w.heap.size ≤ gr := by have := b1.size; omega
  clear r1 rr b1 br b2 a1 z1 a2 z2 ar zr
  clear wr w1
  simp only [Act.put, List.setIfInBounds_toArray, List.set_cons_zero, List.set_cons_succ]
  go_region_law (refine step_copyR rfl (.tmp 8) (.tmp 9) rfl g2 0 54 64 g1 54 54 (by simp [Act.eval, Act.put]) (by simp [Act.eval, Act.put]) (List.replicate 64 0) p.l (r2.later (by go_grown)) (p2.later (by go_grown)) (by omega) (by simp) (by omega) ?_; intro w3 r3 s3)
  rw [List.take_of_length_le (show p.l.length ≤ 54 by omega)] at r3
  have l3 : (splice (List.replicate 64 (0 : UInt8)) 0 p.l).length = 64 := splice_len _ _ _ _ (by simp) (by omega)
  have q3 : Row w3 gr (List.replicate 64 0) := (q2.later (w' := w2.drew) (by go_grown)).step s3 hn
  have S3 : Stp (fun x => w.heap.size ≤ x) w w3 := (Stp.of_below B2 _).drew.next s3 (fun x hx => .inl (by subst hx; exact hge))
  clear r2 p2 q2 B2 s3
  generalize splice (List.replicate 64 (0 : UInt8)) 0 p.l = L at *
  have c54 := r3.cell 54 (by omega)
  have f54 := r3.frozen 54
  have c55 := r3.cell 55 (by omega)
  have f55 := r3.frozen 55
  have r5 := (r3.set 54 (UInt8.ofNat k)).set 55 (UInt8.ofNat (255 - k))
  rw [u8_to (by omega), u8_to (by omega), show ((255 - k : Nat) : Int) = 255 - (k : Int) by omega] at r5
  have s5 : Stp (fun x => x = g2) w3 ((w3.setCell ⟨g2, 54, none⟩ (.int .u8 (k : Int))).setCell ⟨g2, 55, none⟩ (.int .u8 (255 - (k : Int)))) :=
    ((Stp.refl (fun x => x = g2) w3).setCell (p := ⟨g2, 54, none⟩) (.inl rfl) _).setCell (p := ⟨g2, 55, none⟩) (.inl rfl) _
  have l5 : ((L.set 54 (UInt8.ofNat k)).set 55 (UInt8.ofNat (255 - k))).length = 64 := by simp [l3]
  go_wp2_with fail
  generalize (w3.setCell ⟨g2, 54, none⟩ (.int .u8 (k : Int))).setCell ⟨g2, 55, none⟩ (.int .u8 (255 - (k : Int))) = w5 at *
  have q5 := q3.step s5 hn
  have S5 := S3.next s5 (fun x hx => .inl (by subst hx; exact hge))
  clear c54 f54 c55 f55 r3 q3 S3 s5 l3
  clear w3
  generalize (L.set 54 (UInt8.ofNat k)).set 55 (UInt8.ofNat (255 - k)) = L5 at *
  refine (putAt_56 g2 t L5 w5 r5 l5 ht).mono ?_
  rintro e w6 ⟨rfl, r6, s6⟩
  have q6 := q5.step s6 hn
  have S6 := S5.next s6 (fun x hx => .inl (by subst hx; exact hge))
  have l6 : (splice L5 56 (u4 t)).length = 64 := splice_len _ _ _ _ l5 (by rw [u4_len]; omega)
  generalize splice L5 56 (u4 t) = L6 at *
  have d6 := r6.bs0 60 64 (by omega) (by omega) (by decide)
  rw [hls.1] at d6
  generalize hd : sumOf (ints (hdL k t p.l)) = S at *
  have hS : S < 4294967296 := by have := sum_lt (ints (hdL k t p.l)); omega
  clear r5 q5 S5 s6 l5
  clear w5 w2
  go_wp2_with fail
  refine (of1_any 105 rfl d6 (by omega)).mono ?_
  rintro e w7 ⟨rfl, b7⟩
  rw [hd]
  have q7 := q6.later b7
  have r7 := r6.later b7
  have S7 := S6.next (Stp.of_below b7 (fun _ => False)) (fun _ h => h.elim)
  clear q6 r6 S6 b7 d6
  go_wp2_with fail
  refine (putAt_60 g2 S L6 w7 r7 l6 hS).mono ?_
  rintro e w8 ⟨rfl, r8, s8⟩
  rw [hls.2] at r8
  have q8 := q7.step s8 hn
  have S8 := S7.next s8 (fun x hx => .inl (by subst hx; exact hge))
  clear q7 r7 S7 s8
  have hl8 : (hdL k t p.l ++ u4 S).length = 64 := by rw [← hd]; exact (sealK k t p).len
  go_wp2_with (first
    | (refine at_get 88 64 arrB (by rfl) _ (by rfl) g2 (by rfl) _ r8 hl8 ?_)
    | (refine at_put 88 64 arrB (by rfl) _ _ (by rfl) gr (by rfl) _ (by rfl) hl8 _ q8 (by simp) ?_; intro w9 r9 s9))
  have S9 := S8.next s9 (fun x hx => .inl (by subst hx; exact hgr))
  refine bodyPost_ret (retA arrB Tryz.results90 rfl r9 hl8) rfl ⟨?_, S9.below (Nat.le_refl _) (fun _ h => h)⟩
  rw [← hd]; rfl
set_option maxRecDepth 100000
set_option maxRecDepth 100000 in
theorem open_no (b : Blk) (w : World) (hk : isK (byt b 54) = false) :
    Calls Tryz.prog 66 #[.agg b.cs.toArray] w fun e w' => e = .returned (.tuple #[.int .i64 (oKS b : Nat), .agg (oP b).cs.toArray, .int .u32 (oT b : Nat)]) ∧ Below w.heap.size w w' := by
  have hb := b.len
  have hr : rightB b = false := by unfold rightB; rw [hk]; rfl
  have e1 : oKS b = 0 := by unfold oKS; rw [hr]; rfl
  have e2 : oP b = Ld.zero := by unfold oP; rw [hr]; rfl
  have e3 : oT b = 0 := by unfold oT; rw [hr]; rfl
  rw [e1, e2, e3]
  clear e1 e2 e3 hr
  have hl := byt_lt b 54
  go_enter Tryz.func66, Tryz.ntmps66
  go_wp2_with (first
    | (refine at_box 88 64 arrB (by rfl) _ (by rfl) b.l (by rfl) hb ?_; intro gb w1 a1 z1 r1 b1)
    | (refine at_new 62 54 arrL (by rfl) (by rfl) ?_; intro gr w2 a2 z2 r2 b2; have c54 : w2.cell? ⟨gb, 54, none⟩ = some (.int .u8 (byt b 54 : Nat)) := (r1.later b2).cell 54 (by omega))
    | (go_at_call 65; refine (isKind_any _ _).mono ?_; rintro e w3 ⟨rfl, rfl⟩; rw [hk])
    | (refine at_bldL (by rfl) (by rfl) ?_)
    | (refine at_put 62 54 arrL (by rfl) _ _ (by rfl) gr (by rfl) Ld.zero.l (by rfl) Ld.zero.len _ r2 (by simp) ?_; intro w9 r9 s9))
  have S2 : Stp (fun x => w.heap.size ≤ x) w w2 := Stp.of_below (bnext b1 b2 (Nat.le_refl _)) _
  have hgr : w.heap.size ≤ gr := by have := b1.size; omega
  refine bodyPost_ret (retTAt arrL Tryz.results66 rfl rfl rfl r9 Ld.zero.len) rfl ⟨rfl, (S2.next s9 (fun x hx => .inl (by subst hx; exact hgr))).below (Nat.le_refl _) (fun _ h => h)⟩
theorem le4_ints (l : List UInt8) (k : Nat) : le4 (ints l) k = ((get4 l k : Nat) : Int) := by
  unfold le4 get4 num4
  rw [ints_getD, ints_getD, ints_getD, ints_getD]; omega
theorem get32_56 (g : Nat) (l : List UInt8) (w : World) (h : Row w g l) (hl : l.length = 64) :
    Calls Tryz.prog 67 #[.slice (some ⟨g, 0, none⟩) 64 64, .int .i64 56] w fun e w' => e = .returned (.tuple #[.int .u32 (get4 l 56 : Nat), .int .i64 0]) ∧ w = w' := by
  have hb := h.bs0 64 64 (by omega) (Nat.le_refl _) (by decide)
  rw [List.take_of_length_le (by omega)] at hb
  rw [← le4_ints]
  exact get32_ok _ 64 64 _ 56 w hb (by omega)
theorem open_is (b : Blk) (hk : isK (byt b 54) = true) (d : Bool) (hd : decide (b = sealK (byt b 54) (trn b) (ldOf b)) = d) :
    oKS b = (if d then byt b 54 else 0) ∧ oP b = (if d then ldOf b else Ld.zero) ∧ oT b = (if d then trn b else 0) := by
  have : rightB b = d := by unfold rightB; rw [hk, hd]; rfl
  unfold oKS oP oT; rw [this]; exact ⟨rfl, rfl, rfl⟩
set_option maxRecDepth 100000 in
theorem open_yes (b : Blk) (w : World) (hk : isK (byt b 54) = true) :
    Calls Tryz.prog 66 #[.agg b.cs.toArray] w fun e w' => e = .returned (.tuple #[.int .i64 (oKS b : Nat), .agg (oP b).cs.toArray, .int .u32 (oT b : Nat)]) ∧ Below w.heap.size w w' := by
  have hb := b.len
  have ho := open_is b hk
  have hl := byt_lt b 54
  have hk2 : 1 ≤ byt b 54 ∧ byt b 54 ≤ 6 := by unfold isK at hk; simp at hk; omega
  have ht : trn b < 4294967296 := get4_lt _ _
  have hld : (ldOf b).l = b.l.take 54 := rfl
  have tok : True := trivial
  go_enter Tryz.func66, Tryz.ntmps66
  go_wp2_with (first
    | (refine at_box 88 64 arrB (by rfl) _ (by rfl) b.l (by rfl) hb ?_; intro gb w1 a1 z1 r1 b1)
    | (have _t := tok; refine at_new 62 54 arrL (by rfl) (by rfl) ?_; intro gr w2 a2 z2 r2 b2; clear _t tok; have c54 : w2.cell? ⟨gb, 54, none⟩ = some (.int .u8 (byt b 54 : Nat)) := (r1.later b2).cell 54 (by omega))
    | (refine at_new 62 54 arrL (by rfl) (by rfl) ?_; intro gp w3 a3 z3 r3 b3)
    | (go_at_call 65; refine (isKind_any _ _).mono ?_; rintro e w3 ⟨rfl, rfl⟩; rw [hk]))
  have u3 := (r1.later b2).later b3
  have q3 := r2.later b3
  have B3 : Below w.heap.size w w3 := bnext (bnext b1 b2 (Nat.le_refl _)) b3 (Nat.le_refl _)
  have n1 : gb ≠ gp := by omega
  have n2 : gr ≠ gp := by omega
  have n3 : gb ≠ gr := by omega
  have hgr : w.heap.size ≤ gr := by have := b1.size; omega
  have hgp : w.heap.size ≤ gp := by have := b1.size; have := b2.size; omega
  clear r1 r2 b1 b2 b3 a1 a2 a3 z1 z2 z3 c54
  clear w1 w2
  simp only [Act.put, List.setIfInBounds_toArray, List.set_cons_zero, List.set_cons_succ]
  go_region_law (refine step_copyR rfl (.tmp 16) (.tmp 17) rfl gp 0 54 54 gb 54 64 (by simp [Act.eval, Act.put]) (by simp [Act.eval, Act.put]) (List.replicate 54 0) b.l (r3.later (by go_grown)) (u3.later (by go_grown)) (by omega) (by simp) (by omega) ?_; intro w4 r4 s4)
  have e4 : splice (List.replicate 54 (0 : UInt8)) 0 (b.l.take 54) = (ldOf b).l := by
    have : (b.l.take 54).length = 54 := by simp [hb]
    unfold splice; rw [this, hld]; simp
  rw [e4] at r4
  have u4' : Row w4 gb b.l := (u3.later (w' := w3.drew) (by go_grown)).step s4 n1
  have q4 : Row w4 gr (List.replicate 54 0) := (q3.later (w' := w3.drew) (by go_grown)).step s4 n2
  have S4 : Stp (fun x => w.heap.size ≤ x) w w4 := (Stp.of_below B3 _).drew.next s4 (fun x hx => .inl (by subst hx; exact hgp))
  clear r3 u3 q3 B3 s4 e4 hld
  clear w3
  go_wp2_with (first
    | (go_at_call 67; refine (get32_56 gb b.l _ u4' hb).mono ?_; rintro e w5 ⟨rfl, rfl⟩))
  have et : get4 b.l 56 = trn b := rfl
  rw [et]; clear et
  have hS : ∀ w', Below w4.heap.size w4 w' → (Below w4.heap.size w4 w' ∧ Row w' gb b.l ∧ Row w' gp (ldOf b).l) := fun w' h => ⟨h, u4'.later h, r4.later h⟩
  generalize hd : decide (b = sealK (byt b 54) (trn b) (ldOf b)) = d at *
  obtain ⟨o1, o2, o3⟩ := ho d rfl
  have hq := eqB b (sealK (byt b 54) (trn b) (ldOf b))
  rw [hd] at hq
  have hgd := guardB
  have hlp := (ldOf b).len
  refine wp_region_held_drew (S := fun w' => Below w4.heap.size w4 w' ∧ Row w' gb b.l ∧ Row w' gp (ldOf b).l) (by kernel_rfl) (hS _ (Below.refl _ _).drew) (fun hHeld => ?_)
  refine tm 0 (.agg b.cs.toArray) rfl
    (yields_row 88 64 arrB (by rfl) (.tmp 1) rfl gb (by rfl) b.l hb (fun u hu => hu.2.1)) ?_
  try simp only [z]
  refine tl 1 (.int .i64 (byt b 54 : Nat)) rfl ?_
  try simp only [z]
  refine tl 2 (.int .u32 (trn b : Nat)) rfl ?_
  try simp only [z]
  refine tm 3 (.agg (ldOf b).cs.toArray) rfl
    (yields_row 62 54 arrL (by rfl) (.tmp 6) rfl gp (by rfl) (ldOf b).l hlp (fun u hu => hu.2.2)) ?_
  try simp only [z]
  refine wpAnyH_ready (rs := [4]) (by kernel_rfl) (by simp) ?_
  refine AllReadyH.cons (o := ⟨some 28, .call { callee := Callee.value (.func 90), args := #[.tmp 25, .tmp 26, .tmp 27], argTypes := #[3, 22, 62] }, 88, _, #[⟨1, .data⟩, ⟨2, .data⟩, ⟨3, .data⟩], none⟩) rfl (fun K hK => ?_) AllReadyH.nil
  go_simp
  refine (sealed_any _ _ _ _ hk2.1 hk2.2 ht).mono ?_
  rintro e w5 ⟨rfl, b5⟩
  try go_wp2_with fail
  have B5 : Below w4.heap.size w4 w5 := bnext ((Below.refl w4.heap.size w4).drew) b5 (Nat.le_refl _)
  refine hK.out _ _ (hS _ B5) (fun hHeld => ?_)
  clear hK K b5
  try simp only [z]
  refine tl 5 (.bool (!d)) rfl ?_
  try simp only [z]
  refine wpAnyH_done (by kernel_rfl) ?_ _
  have r5 := r4.later B5
  have q5 := q4.later B5
  have S5 := S4.next (Stp.of_below B5 (fun _ => False)) (fun _ h => h.elim)
  clear hHeld hS hq u4' r4 q4 S4 B5 ho hd
  clear hHeld
  cases d
  · have hE : Hid (oKS b = 0 ∧ oP b = Ld.zero ∧ oT b = 0) := ⟨o1, o2, o3⟩
    clear o1 o2 o3
    go_wp2_with (first
      | (refine at_bldL (by rfl) (by rfl) ?_)
      | (refine at_put 62 54 arrL (by rfl) _ _ (by rfl) gr (by rfl) Ld.zero.l (by rfl) Ld.zero.len _ q5 (by simp) ?_; intro w9 r9 s9))
    refine bodyPost_ret (retTAt arrL Tryz.results66 rfl rfl rfl r9 Ld.zero.len) rfl ⟨by obtain ⟨q1, q2, q3⟩ := hE.out; rw [q1, q2, q3]; rfl, (S5.next s9 (fun x hx => .inl (by subst hx; exact hgr))).below (Nat.le_refl _) (fun _ h => h)⟩
  · have hE : Hid (oKS b = byt b 54 ∧ oP b = ldOf b ∧ oT b = trn b) := ⟨o1, o2, o3⟩
    clear o1 o2 o3
    go_wp2_with fail
    refine wp_region_held_drew (S := fun w' => Row w' gp (ldOf b).l) (by kernel_rfl) (r5.later (Below.refl _ _).drew) (fun hHeld => ?_)
    refine tl 0 (.int .i64 (byt b 54 : Nat)) rfl ?_
    try simp only [z]
    refine tm 1 (.agg (ldOf b).cs.toArray) rfl
      (yields_row 62 54 arrL (by rfl) (.tmp 6) rfl gp (by rfl) (ldOf b).l hlp (fun u hu => hu)) ?_
    try simp only [z]
    refine tl 2 (.int .u32 (trn b : Nat)) rfl ?_
    try simp only [z]
    refine tl 3 (.int .i64 (byt b 54 : Nat)) rfl ?_
    try simp only [z]
    refine wpAnyH_ready (rs := [4]) (by kernel_rfl) (by simp) ?_
    refine AllReadyH.cons (o := ⟨none, .store 62 (.tmp 3) (.tmp 32), 0, _, #[⟨1, .data⟩, ⟨3, .chain⟩, ⟨0, .phase⟩, ⟨1, .phase⟩, ⟨2, .textOnly .lateStores⟩, ⟨3, .phase⟩], none⟩) rfl (fun K hK => ?_) AllReadyH.nil
    refine step_put 62 54 arrL rfl (.tmp 3) (.tmp 32) rfl gr (by rfl) (ldOf b).l (by rfl) hlp (List.replicate 54 0) (q5.later (Below.refl _ _).drew) (by simp) ?_
    intro w9 r9 s9
    refine hK.out _ _ (hHeld.step s9 (Ne.symm n2)) (fun hHeld => ?_)
    clear hK K
    try simp only [Act.put]
    refine tl 5 (.int .u32 (trn b : Nat)) rfl ?_
    try simp only [z]
    refine wpAnyH_done (by kernel_rfl) ?_ _
    go_wp2_with fail
    refine bodyPost_ret (retTAt arrL Tryz.results66 rfl rfl rfl r9 hlp) rfl ⟨by obtain ⟨q1, q2, q3⟩ := hE.out; rw [q1, q2, q3]; rfl, ((S5.drew).next s9 (fun x hx => .inl (by subst hx; exact hgr))).below (Nat.le_refl _) (fun _ h => h)⟩
theorem open_any (b : Blk) (w : World) :
    Calls Tryz.prog 66 #[.agg b.cs.toArray] w fun e w' => e = .returned (.tuple #[.int .i64 (oKS b : Nat), .agg (oP b).cs.toArray, .int .u32 (oT b : Nat)]) ∧ Below w.heap.size w w' := by
  cases hk : isK (byt b 54)
  · exact open_no b w hk
  · exact open_yes b w hk
set_option maxRecDepth 100000
def pBS (k : Int) (t : Nat) (p : Ld) : Blk := if isK k then sealK k.toNat t p else Blk.zero
def pE (k : Int) : Int := if isK k then 0 else 2
def gES (k : Int) (b : Blk) : Int := if isK k then (if (oKS b : Int) = k then 0 else 21) else 2
def gP (k : Int) (b : Blk) : Ld := if gES k b = 0 then oP b else Ld.zero
def gT (k : Int) (b : Blk) : Nat := if gES k b = 0 then oT b else 0
def nT (b : Blk) : Nat := (oT b + 1) % 4294967296
theorem nT_lt (b : Blk) : nT b < 4294967296 := by unfold nT; omega
theorem isK_nat {k : Int} (h : isK k = true) : ∃ n : Nat, k = (n : Int) ∧ 1 ≤ n ∧ n ≤ 6 := by
  unfold isK at h; simp at h
  exact ⟨k.toNat, by omega, by omega, by omega⟩
theorem isK_of {n : Nat} (h1 : 1 ≤ n) (h6 : n ≤ 6) : isK (n : Int) = true := by unfold isK; simp; omega
set_option maxRecDepth 100000 in
theorem put_anyS (k : Int) (t : Nat) (p : Ld) (w : World) (ht : t < 4294967296) :
    Calls Tryz.prog 144 #[.int .i64 k, .int .u32 (t : Int), .agg p.cs.toArray] w fun e w' => e = .returned (.tuple #[.agg (pBS k t p).cs.toArray, .int .i64 (pE k)]) ∧ Below w.heap.size w w' := by
  have hp := p.len
  cases hk : isK k
  · have hE : Hid (pBS k t p = Blk.zero ∧ pE k = 2) := ⟨by unfold pBS; rw [hk]; rfl, by unfold pE; rw [hk]; rfl⟩
    go_enter Tryz.func144, Tryz.ntmps144
    go_wp2_with (first
      | (refine at_box 62 54 arrL (by rfl) _ (by rfl) p.l (by rfl) hp ?_; intro g1 w1 a1 z1 r1 b1)
      | (refine at_new 88 64 arrB (by rfl) (by rfl) ?_; intro gr w2 a2 z2 r2 b2)
      | (go_at_call 65; refine (isKind_any _ _).mono ?_; rintro e w3 ⟨rfl, rfl⟩; rw [hk])
      | (refine at_bldB (by rfl) (by rfl) ?_)
      | (refine at_put 88 64 arrB (by rfl) _ _ (by rfl) gr (by rfl) Blk.zero.l (by rfl) Blk.zero.len _ r2 (by simp) ?_; intro w9 r9 s9))
    have S2 : Stp (fun x => w.heap.size ≤ x) w w2 := Stp.of_below (bnext b1 b2 (Nat.le_refl _)) _
    have hgr : w.heap.size ≤ gr := by have := b1.size; omega
    refine bodyPost_ret (retAt arrB Tryz.results144 rfl rfl r9 Blk.zero.len) rfl ⟨by obtain ⟨q1, q2⟩ := hE.out; rw [q1, q2]; rfl, (S2.next s9 (fun x hx => .inl (by subst hx; exact hgr))).below (Nat.le_refl _) (fun _ h => h)⟩
  · obtain ⟨n, rfl, h1, h6⟩ := isK_nat hk
    have hE : Hid (pBS n t p = sealK n t p ∧ pE n = 0) := ⟨by unfold pBS; rw [hk]; rfl, by unfold pE; rw [hk]; rfl⟩
    have hlb := (sealK n t p).len
    go_enter Tryz.func144, Tryz.ntmps144
    go_wp2_with (first
      | (refine at_box 62 54 arrL (by rfl) _ (by rfl) p.l (by rfl) hp ?_; intro g1 w1 a1 z1 r1 b1)
      | (refine at_new 88 64 arrB (by rfl) (by rfl) ?_; intro gr w2 a2 z2 r2 b2)
      | (go_at_call 65; refine (isKind_any _ _).mono ?_; rintro e w3 ⟨rfl, rfl⟩; rw [hk])
      | (refine at_get 62 54 arrL (by rfl) _ (by rfl) g1 (by rfl) _ (r1.later b2) hp ?_)
      | (go_at_call 90; refine (sealed_any n t p _ h1 h6 ht).mono ?_; rintro e w4 ⟨rfl, b4⟩)
      | (refine at_put 88 64 arrB (by rfl) _ _ (by rfl) gr (by rfl) (sealK n t p).l (by rfl) hlb _ (r2.later b4) (by simp) ?_; intro w9 r9 s9))
    have S4 : Stp (fun x => w.heap.size ≤ x) w w4 := Stp.of_below (bnext (bnext b1 b2 (Nat.le_refl _)) b4 (Nat.le_refl _)) _
    have hgr : w.heap.size ≤ gr := by have := b1.size; omega
    refine bodyPost_ret (retAt arrB Tryz.results144 rfl rfl r9 hlb) rfl ⟨by obtain ⟨q1, q2⟩ := hE.out; rw [q1, q2]; rfl, (S4.next s9 (fun x hx => .inl (by subst hx; exact hgr))).below (Nat.le_refl _) (fun _ h => h)⟩
set_option maxRecDepth 100000 in
theorem kind_any (b : Blk) (w : World) :
    Calls Tryz.prog 141 #[.agg b.cs.toArray] w fun e w' => e = .returned (.int .i64 (oKS b : Nat)) ∧ Below w.heap.size w w' := by
  have hb := b.len
  have hlp := (oP b).len
  go_enter Tryz.func141, Tryz.ntmps141
  go_wp2_with (first
    | (refine at_box 88 64 arrB (by rfl) _ (by rfl) b.l (by rfl) hb ?_; intro gb w1 a1 z1 r1 b1)
    | (refine at_get 88 64 arrB (by rfl) _ (by rfl) gb (by rfl) _ r1 hb ?_)
    | (go_at_call 66; refine (open_any b _).mono ?_; rintro e w2 ⟨rfl, b2⟩)
    | (refine at_new 62 54 arrL (by rfl) (by rfl) ?_; intro gp w3 a3 z3 r3 b3)
    | (refine at_put 62 54 arrL (by rfl) _ _ (by rfl) gp (by rfl) (oP b).l (by rfl) hlp _ r3 (by simp) ?_; intro w9 r9 s9))
  have S3 : Stp (fun x => w.heap.size ≤ x) w w3 := Stp.of_below (bnext (bnext b1 b2 (Nat.le_refl _)) b3 (Nat.le_refl _)) _
  have hgp : w.heap.size ≤ gp := by have := b1.size; have := b2.size; omega
  have S9 := S3.next s9 (fun x hx => .inl (by subst hx; exact hgp))
  go_returns
  exact ⟨rfl, S9.below (Nat.le_refl _) (fun _ h => h)⟩
set_option maxRecDepth 100000
set_option maxRecDepth 100000 in
set_option maxHeartbeats 2000000 in
theorem get_anyS (k : Int) (b : Blk) (w : World) :
    Calls Tryz.prog 38 #[.int .i64 k, .agg b.cs.toArray] w fun e w' => e = .returned (.tuple #[.agg (gP k b).cs.toArray, .int .u32 (gT k b : Nat), .int .i64 (gES k b)]) ∧ Below w.heap.size w w' := by
  have hb := b.len
  have hlp := (oP b).len
  cases hk : isK k
  · have he : gES k b = 2 := by unfold gES; rw [hk]; rfl
    have hE : Hid (gP k b = Ld.zero ∧ gT k b = 0 ∧ gES k b = 2) := ⟨by unfold gP; rw [he]; rfl, by unfold gT; rw [he]; rfl, he⟩
    clear he
    go_enter Tryz.func38, Tryz.ntmps38
    go_wp2_with (first
      | (refine at_box 88 64 arrB (by rfl) _ (by rfl) b.l (by rfl) hb ?_; intro gb w1 a1 z1 r1 b1)
      | (refine at_new 62 54 arrL (by rfl) (by rfl) ?_; intro gr w2 a2 z2 r2 b2)
      | (go_at_call 65; refine (isKind_any _ _).mono ?_; rintro e w3 ⟨rfl, rfl⟩; rw [hk])
      | (refine at_bldL (by rfl) (by rfl) ?_)
      | (refine at_put 62 54 arrL (by rfl) _ _ (by rfl) gr (by rfl) Ld.zero.l (by rfl) Ld.zero.len _ r2 (by simp) ?_; intro w9 r9 s9))
    have S2 : Stp (fun x => w.heap.size ≤ x) w w2 := Stp.of_below (bnext b1 b2 (Nat.le_refl _)) _
    have hgr : w.heap.size ≤ gr := by have := b1.size; omega
    refine bodyPost_ret (retAtt arrL Tryz.results38 rfl rfl rfl r9 Ld.zero.len) rfl ⟨by obtain ⟨q1, q2, q3⟩ := hE.out; rw [q1, q2, q3]; rfl, (S2.next s9 (fun x hx => .inl (by subst hx; exact hgr))).below (Nat.le_refl _) (fun _ h => h)⟩
  · have tok : True := trivial
    by_cases hx : (oKS b : Int) = k
    · have he : gES k b = 0 := by unfold gES; rw [hk, if_pos rfl, if_pos hx]
      have hE : Hid (gP k b = oP b ∧ gT k b = oT b ∧ gES k b = 0) := ⟨by unfold gP; rw [he]; rfl, by unfold gT; rw [he]; rfl, he⟩
      clear he
      subst hx
      go_enter Tryz.func38, Tryz.ntmps38
      go_wp2_with (first
        | (refine at_box 88 64 arrB (by rfl) _ (by rfl) b.l (by rfl) hb ?_; intro gb w1 a1 z1 r1 b1)
        | (have _t := tok; refine at_new 62 54 arrL (by rfl) (by rfl) ?_; intro gr w2 a2 z2 r2 b2; clear _t tok)
        | (go_at_call 65; refine (isKind_any _ _).mono ?_; rintro e w3 ⟨rfl, rfl⟩; rw [hk])
        | (refine at_get 88 64 arrB (by rfl) _ (by rfl) gb (by rfl) _ (r1.later b2) hb ?_)
        | (go_at_call 66; refine (open_any b _).mono ?_; rintro e w4 ⟨rfl, b4⟩)
        | (refine at_new 62 54 arrL (by rfl) (by rfl) ?_; intro gp w5 a5 z5 r5 b5)
        | (refine at_put 62 54 arrL (by rfl) _ _ (by rfl) gp (by rfl) (oP b).l (by rfl) hlp _ r5 (by simp) ?_; intro w6 r6 s6)
        | (refine at_get 62 54 arrL (by rfl) _ (by rfl) gp (by rfl) _ r6 hlp ?_)
        | (refine at_put 62 54 arrL (by rfl) _ _ (by rfl) gr (by rfl) (oP b).l (by rfl) hlp _ (((r2.later b4).later b5).step s6 (by have := b4.size; omega)) (by simp) ?_; intro w9 r9 s9))
      have S5 : Stp (fun x => w.heap.size ≤ x) w w5 := Stp.of_below (bnext (bnext (bnext b1 b2 (Nat.le_refl _)) b4 (Nat.le_refl _)) b5 (Nat.le_refl _)) _
      have hgr : w.heap.size ≤ gr := by have := b1.size; omega
      have hgp : w.heap.size ≤ gp := by have := b1.size; have := b2.size; have := b4.size; omega
      have S6 := S5.next s6 (fun x hx => .inl (by subst hx; exact hgp))
      refine bodyPost_ret (retAtt arrL Tryz.results38 rfl rfl rfl r9 hlp) rfl ⟨by obtain ⟨q1, q2, q3⟩ := hE.out; rw [q1, q2, q3]; rfl, (S6.next s9 (fun x hx => .inl (by subst hx; exact hgr))).below (Nat.le_refl _) (fun _ h => h)⟩
    · have he : gES k b = 21 := by unfold gES; rw [hk, if_pos rfl, if_neg hx]
      have hE : Hid (gP k b = Ld.zero ∧ gT k b = 0 ∧ gES k b = 21) := ⟨by unfold gP; rw [he]; rfl, by unfold gT; rw [he]; rfl, he⟩
      clear he
      go_enter Tryz.func38, Tryz.ntmps38
      go_wp2_with (first
        | (refine at_box 88 64 arrB (by rfl) _ (by rfl) b.l (by rfl) hb ?_; intro gb w1 a1 z1 r1 b1)
        | (have _t := tok; refine at_new 62 54 arrL (by rfl) (by rfl) ?_; intro gr w2 a2 z2 r2 b2; clear _t tok)
        | (go_at_call 65; refine (isKind_any _ _).mono ?_; rintro e w3 ⟨rfl, rfl⟩; rw [hk])
        | (refine at_get 88 64 arrB (by rfl) _ (by rfl) gb (by rfl) _ (r1.later b2) hb ?_)
        | (go_at_call 66; refine (open_any b _).mono ?_; rintro e w4 ⟨rfl, b4⟩)
        | (refine at_new 62 54 arrL (by rfl) (by rfl) ?_; intro gp w5 a5 z5 r5 b5)
        | (refine at_put 62 54 arrL (by rfl) _ _ (by rfl) gp (by rfl) (oP b).l (by rfl) hlp _ r5 (by simp) ?_; intro w6 r6 s6)
        | (refine at_bldL (by rfl) (by rfl) ?_)
        | (refine at_put 62 54 arrL (by rfl) _ _ (by rfl) gr (by rfl) Ld.zero.l (by rfl) Ld.zero.len _ (((r2.later b4).later b5).step s6 (by have := b4.size; omega)) (by simp) ?_; intro w9 r9 s9))
      have S5 : Stp (fun x => w.heap.size ≤ x) w w5 := Stp.of_below (bnext (bnext (bnext b1 b2 (Nat.le_refl _)) b4 (Nat.le_refl _)) b5 (Nat.le_refl _)) _
      have hgr : w.heap.size ≤ gr := by have := b1.size; omega
      have hgp : w.heap.size ≤ gp := by have := b1.size; have := b2.size; have := b4.size; omega
      have S6 := S5.next s6 (fun x hx => .inl (by subst hx; exact hgp))
      refine bodyPost_ret (retAtt arrL Tryz.results38 rfl rfl rfl r9 Ld.zero.len) rfl ⟨by obtain ⟨q1, q2, q3⟩ := hE.out; rw [q1, q2, q3]; rfl, (S6.next s9 (fun x hx => .inl (by subst hx; exact hgr))).below (Nat.le_refl _) (fun _ h => h)⟩
theorem nT_int (b : Blk) : IntKind.u32.wrap ((oT b : Int) + 1) = (nT b : Int) := by
  unfold nT; rw [IntKind.wrap_u32']; omega
end Go.Proofs.YtgdnhkdfcjpdiaaGreatDoor
