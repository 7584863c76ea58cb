/-
  What the small functions of layer 7 return: no statement is proved here.
-/
import Derived.Test.YteceapdkgidenaaSealA
import Derived.Test.YteceapdkgidenaaCrcC
namespace Go.Proofs.Yteceapdkgidenaa
open Go.ChangeShapes Go.WideShapes Go.ChangeAt Go.RowKit
set_option linter.unusedVariables false

theorem isKind_any (n : Int) (w : World) : Calls Try.prog 45 #[.int .i64 n] w fun e w' => e = .returned (.bool (isK n)) ∧ w = w' := by
  unfold isK
  by_cases h : 1 ≤ n
  · by_cases h' : n ≤ 6
    all_goals
      go_enter Try.func45, Try.ntmps45
      go_wp2
      go_returns
      refine ⟨ret_bool ?_, rfl⟩
      simp; omega
  · go_enter Try.func45, Try.ntmps45
    go_wp2
    go_returns
    refine ⟨ret_bool ?_, rfl⟩
    simp; omega
theorem may_any (n : Int) (w : World) : Calls Try.prog 42 #[.int .i64 n] w fun e w' => e = .returned (.bool (isK n)) ∧ w = w' := by
  unfold isK
  by_cases h : 1 ≤ n
  · by_cases h' : n ≤ 6
    all_goals
      go_enter Try.func42, Try.ntmps42
      go_wp2
      go_returns
      refine ⟨ret_bool ?_, rfl⟩
      simp; omega
  · go_enter Try.func42, Try.ntmps42
    go_wp2
    go_returns
    refine ⟨ret_bool ?_, rfl⟩
    simp; omega
theorem cells_u4 {x : Nat} (h : x < 4294967296) : cells (u4 x) = [.int .u8 ((x : Int) % 256), .int .u8 ((x : Int) / 256 % 256), .int .u8 ((x : Int) / 65536 % 256), .int .u8 ((x : Int) / 16777216)] := by
  have e : cells (u4 x) = (ints (u4 x)).map (Value.int .u8) := by unfold cells ints; rw [List.map_map]; rfl
  rw [e, ints_u4 h]; rfl
theorem putAt_56 (g x : Nat) (l : List UInt8) (w : World) (hR : Row w g l) (hl : l.length = 64) (hx : x < 4294967296) :
    Calls Try.prog 57 #[.pointer (some ⟨g, 0, none⟩), .int .i64 56, .int .u32 (x : Int)] w fun e w' => e = .returned (.tuple #[]) ∧ Row w' g (splice l 56 (u4 x)) ∧ Stp (fun y => y = g) w w' := by
  go_enter Try.func57, Try.ntmps57
  go_wp2_with (go_at_call 61; refine (put32_any (x : Int) w (by omega) (by omega)).mono ?_; rintro e w1 ⟨rfl, b1⟩)
  have r2 := Row.made w1 (u4 x) 85
  rw [cells_u4 hx] at r2
  have b2 : Below w.heap.size w (w1.alloc (Obj.cells #[Value.int IntKind.u8 ((x : Int) % 256), Value.int IntKind.u8 ((x : Int) / 256 % 256), Value.int IntKind.u8 ((x : Int) / 65536 % 256), Value.int IntKind.u8 ((x : Int) / 16777216)] 85)) := b1.alloc b1.size _
  have hG : g < w1.heap.size := Nat.lt_of_lt_of_le hR.lt b1.size
  have hR2 := hR.later b2
  generalize w1.alloc (Obj.cells #[Value.int IntKind.u8 ((x : Int) % 256), Value.int IntKind.u8 ((x : Int) / 256 % 256), Value.int IntKind.u8 ((x : Int) / 65536 % 256), Value.int IntKind.u8 ((x : Int) / 16777216)] 85) = w2 at *
  generalize w1.heap.size = g2 at *
  go_region_law (refine step_copyR rfl (.tmp 12) (.tmp 13) rfl g 56 8 8 g2 4 4 (by simp [Act.eval, Act.put]) (by simp [Act.eval, Act.put]) l (u4 x) (hR2.later (by go_grown)) (r2.later (by go_grown)) (by omega) (by omega) (Nat.le_refl 4) ?_; intro w3 r3 s3)
  go_wp2
  go_returns
  exact ⟨rfl, r3, (Stp.of_below b2 _).drew.next s3 (fun _ h => .inl h)⟩
theorem putAt_60 (g x : Nat) (l : List UInt8) (w : World) (hR : Row w g l) (hl : l.length = 64) (hx : x < 4294967296) :
    Calls Try.prog 57 #[.pointer (some ⟨g, 0, none⟩), .int .i64 60, .int .u32 (x : Int)] w fun e w' => e = .returned (.tuple #[]) ∧ Row w' g (splice l 60 (u4 x)) ∧ Stp (fun y => y = g) w w' := by
  go_enter Try.func57, Try.ntmps57
  go_wp2_with (go_at_call 61; refine (put32_any (x : Int) w (by omega) (by omega)).mono ?_; rintro e w1 ⟨rfl, b1⟩)
  have r2 := Row.made w1 (u4 x) 85
  rw [cells_u4 hx] at r2
  have b2 : Below w.heap.size w (w1.alloc (Obj.cells #[Value.int IntKind.u8 ((x : Int) % 256), Value.int IntKind.u8 ((x : Int) / 256 % 256), Value.int IntKind.u8 ((x : Int) / 65536 % 256), Value.int IntKind.u8 ((x : Int) / 16777216)] 85)) := b1.alloc b1.size _
  have hG : g < w1.heap.size := Nat.lt_of_lt_of_le hR.lt b1.size
  have hR2 := hR.later b2
  generalize w1.alloc (Obj.cells #[Value.int IntKind.u8 ((x : Int) % 256), Value.int IntKind.u8 ((x : Int) / 256 % 256), Value.int IntKind.u8 ((x : Int) / 65536 % 256), Value.int IntKind.u8 ((x : Int) / 16777216)] 85) = w2 at *
  generalize w1.heap.size = g2 at *
  go_region_law (refine step_copyR rfl (.tmp 12) (.tmp 13) rfl g 60 4 4 g2 4 4 (by simp [Act.eval, Act.put]) (by simp [Act.eval, Act.put]) l (u4 x) (hR2.later (by go_grown)) (r2.later (by go_grown)) (by omega) (by omega) (Nat.le_refl 4) ?_; intro w3 r3 s3)
  go_wp2
  go_returns
  exact ⟨rfl, r3, (Stp.of_below b2 _).drew.next s3 (fun _ h => .inl h)⟩
theorem lay_seal (k t s : Nat) (p Z : List UInt8) (hp : p.length = 54) (hZ : Z.length = 64) :
    (splice (((splice Z 0 p).set 54 (UInt8.ofNat k)).set 55 (UInt8.ofNat (255 - k))) 56 (u4 t)).take 60 = hdL k t p ∧
    splice (splice (((splice Z 0 p).set 54 (UInt8.ofNat k)).set 55 (UInt8.ofNat (255 - k))) 56 (u4 t)) 60 (u4 s) = hdL k t p ++ u4 s := by
  obtain ⟨q, a0, a1, a2, a3, a4, a5, a6, a7, a8, a9, hq, rfl⟩ := split64 Z hZ
  have e1 : splice (q ++ [a0, a1, a2, a3, a4, a5, a6, a7, a8, a9]) 0 p = p ++ [a0, a1, a2, a3, a4, a5, a6, a7, a8, a9] := by
    unfold splice; rw [List.take_zero, List.nil_append, hp, List.drop_append, hq, List.drop_of_length_le (by omega)]; rfl
  have e2 : (p ++ [a0, a1, a2, a3, a4, a5, a6, a7, a8, a9]).set 54 (UInt8.ofNat k) = p ++ [UInt8.ofNat k, a1, a2, a3, a4, a5, a6, a7, a8, a9] := by
    rw [List.set_append_right _ _ (by omega), hp]; rfl
  have e3 : (p ++ [UInt8.ofNat k, a1, a2, a3, a4, a5, a6, a7, a8, a9]).set 55 (UInt8.ofNat (255 - k)) = p ++ [UInt8.ofNat k, UInt8.ofNat (255 - k), a2, a3, a4, a5, a6, a7, a8, a9] := by
    rw [List.set_append_right _ _ (by omega), hp]; rfl
  have e4 : splice (p ++ [UInt8.ofNat k, UInt8.ofNat (255 - k), a2, a3, a4, a5, a6, a7, a8, a9]) 56 (u4 t) = p ++ ([UInt8.ofNat k, UInt8.ofNat (255 - k)] ++ (u4 t ++ [a6, a7, a8, a9])) := by
    unfold splice
    rw [u4_len, List.take_append, List.drop_append, hp, List.drop_of_length_le (by omega), List.take_of_length_le (by omega)]
    simp
  have e5 : (p ++ ([UInt8.ofNat k, UInt8.ofNat (255 - k)] ++ (u4 t ++ [a6, a7, a8, a9]))).take 60 = hdL k t p := by
    rw [List.take_append, hp, List.take_of_length_le (by omega)]; rfl
  rw [e1, e2, e3, e4]
  refine ⟨e5, ?_⟩
  unfold splice
  rw [e5, u4_len, List.drop_append, hp, List.drop_of_length_le (by omega)]
  simp [u4]
theorem splice_len (l : List UInt8) (o : Nat) (c : List UInt8) (n : Nat) (hl : l.length = n) (h : o + c.length ≤ n) : (splice l o c).length = n := by rw [length_splice l o c (by omega)]; exact hl
theorem of1_any {W : World} {a : Option Addr} {n c G : Nat} {l : List Int} (e : TypeId) (hG : W.heap.size = G) (h : Bs W a n c l) (hn : n ≤ 1000000000000) :
    Calls Try.prog 58 #[.slice (some ⟨G, 0, none⟩) 1 1] (W.alloc (.cells #[.slice a n c] e)) fun e' w' => e' = .returned (.int .u32 (sumOf l : Nat)) ∧ Below W.heap.size W w' := by
  subst hG
  have hb : Bss (W.alloc (.cells #[.slice a n c] e)) (some ⟨W.heap.size, 0, none⟩) 1 1 [l] :=
    bss_alloc W e [.slice a n c] [l] rfl (by unfold maxLen; simp) fun i hi => by
      obtain rfl : i = 0 := by simp at hi; omega
      exact ⟨_, _, _, rfl, h⟩
  refine (of_any _ 1 1 [l] _ hb (by have := h.len; simp; omega)).mono ?_
  rintro e' w' ⟨rfl, b⟩
  refine ⟨by simp, ?_⟩
  exact bnext ((Below.refl _ _).alloc (Nat.le_refl _) _) b (Nat.le_refl _)
set_option maxRecDepth 100000 in
theorem sealed_any (k t : Nat) (p : Ld) (w : World) (h1 : 1 ≤ k) (h6 : k ≤ 6) (ht : t < 4294967296) :
    Calls Try.prog 46 #[.int .i64 (k : Int), .int .u32 (t : Int), .agg p.cs.toArray] w fun e w' => e = .returned (.agg (sealK k t p).cs.toArray) ∧ Below w.heap.size w w' := by
  have hp := p.len
  have hls := lay_seal k t (sumOf (ints (hdL k t p.l))) p.l (List.replicate 64 0) hp (by simp)
  have tok : True := trivial
  go_enter Try.func46, Try.ntmps46
  go_wp2_with (first
    | (refine at_box 35 54 arrL (by rfl) _ (by rfl) p.l (by rfl) hp ?_; intro g1 w1 a1 z1 r1 b1)
    | (have _t := tok; refine at_new 23 64 arrB (by rfl) (by rfl) ?_; intro gr wr ar zr rr br; clear _t tok)
    | (refine at_new 23 64 arrB (by rfl) (by rfl) ?_; intro g2 w2 a2 z2 r2 b2))
  have p2 := (r1.later br).later b2
  have q2 := rr.later b2
  have B2 : Below w.heap.size w w2 := bnext (bnext b1 br (Nat.le_refl _)) b2 (Nat.le_refl _)
  have hn : gr ≠ g2 := by omega
  have hge : w.heap.size ≤ g2 := by have := b1.size; have := br.size; omega
  have hgr : w.heap.size ≤ gr := by have := b1.size; omega
  clear r1 rr b1 br b2 a1 z1 a2 z2 ar zr
  clear wr w1
  simp only [Act.put, List.setIfInBounds_toArray, List.set_cons_zero, List.set_cons_succ]
  go_region_law (refine step_copyR rfl (.tmp 8) (.tmp 9) rfl g2 0 54 64 g1 54 54 (by simp [Act.eval, Act.put]) (by simp [Act.eval, Act.put]) (List.replicate 64 0) p.l (r2.later (by go_grown)) (p2.later (by go_grown)) (by omega) (by simp) (by omega) ?_; intro w3 r3 s3)
  rw [List.take_of_length_le (show p.l.length ≤ 54 by omega)] at r3
  have l3 : (splice (List.replicate 64 (0 : UInt8)) 0 p.l).length = 64 := splice_len _ _ _ _ (by simp) (by omega)
  have q3 : Row w3 gr (List.replicate 64 0) := (q2.later (w' := w2.drew) (by go_grown)).step s3 hn
  have S3 : Stp (fun x => w.heap.size ≤ x) w w3 := (Stp.of_below B2 _).drew.next s3 (fun x hx => .inl (by subst hx; exact hge))
  clear r2 p2 q2 B2 s3
  generalize splice (List.replicate 64 (0 : UInt8)) 0 p.l = L at *
  have c54 := r3.cell 54 (by omega)
  have f54 := r3.frozen 54
  have c55 := r3.cell 55 (by omega)
  have f55 := r3.frozen 55
  have r5 := (r3.set 54 (UInt8.ofNat k)).set 55 (UInt8.ofNat (255 - k))
  rw [u8_to (by omega), u8_to (by omega), show ((255 - k : Nat) : Int) = 255 - (k : Int) by omega] at r5
  have s5 : Stp (fun x => x = g2) w3 ((w3.setCell ⟨g2, 54, none⟩ (.int .u8 (k : Int))).setCell ⟨g2, 55, none⟩ (.int .u8 (255 - (k : Int)))) :=
    ((Stp.refl (fun x => x = g2) w3).setCell (p := ⟨g2, 54, none⟩) (.inl rfl) _).setCell (p := ⟨g2, 55, none⟩) (.inl rfl) _
  have l5 : ((L.set 54 (UInt8.ofNat k)).set 55 (UInt8.ofNat (255 - k))).length = 64 := by simp [l3]
  go_wp2_with fail
  generalize (w3.setCell ⟨g2, 54, none⟩ (.int .u8 (k : Int))).setCell ⟨g2, 55, none⟩ (.int .u8 (255 - (k : Int))) = w5 at *
  have q5 := q3.step s5 hn
  have S5 := S3.next s5 (fun x hx => .inl (by subst hx; exact hge))
  clear c54 f54 c55 f55 r3 q3 S3 s5 l3
  clear w3
  generalize (L.set 54 (UInt8.ofNat k)).set 55 (UInt8.ofNat (255 - k)) = L5 at *
  refine (putAt_56 g2 t L5 w5 r5 l5 ht).mono ?_
  rintro e w6 ⟨rfl, r6, s6⟩
  have q6 := q5.step s6 hn
  have S6 := S5.next s6 (fun x hx => .inl (by subst hx; exact hge))
  have l6 : (splice L5 56 (u4 t)).length = 64 := splice_len _ _ _ _ l5 (by rw [u4_len]; omega)
  generalize splice L5 56 (u4 t) = L6 at *
  have d6 := r6.bs0 60 64 (by omega) (by omega) (by decide)
  rw [hls.1] at d6
  generalize hd : sumOf (ints (hdL k t p.l)) = S at *
  have hS : S < 4294967296 := by have := sum_lt (ints (hdL k t p.l)); omega
  clear r5 q5 S5 s6 l5
  clear w5 w2
  go_wp2_with fail
  refine (of1_any 24 rfl d6 (by omega)).mono ?_
  rintro e w7 ⟨rfl, b7⟩
  rw [hd]
  have q7 := q6.later b7
  have r7 := r6.later b7
  have S7 := S6.next (Stp.of_below b7 (fun _ => False)) (fun _ h => h.elim)
  clear q6 r6 S6 b7 d6
  go_wp2_with fail
  refine (putAt_60 g2 S L6 w7 r7 l6 hS).mono ?_
  rintro e w8 ⟨rfl, r8, s8⟩
  rw [hls.2] at r8
  have q8 := q7.step s8 hn
  have S8 := S7.next s8 (fun x hx => .inl (by subst hx; exact hge))
  clear q7 r7 S7 s8
  have hl8 : (hdL k t p.l ++ u4 S).length = 64 := by rw [← hd]; exact (sealK k t p).len
  go_wp2_with (first
    | (refine at_get 23 64 arrB (by rfl) _ (by rfl) g2 (by rfl) _ r8 hl8 ?_)
    | (refine at_put 23 64 arrB (by rfl) _ _ (by rfl) gr (by rfl) _ (by rfl) hl8 _ q8 (by simp) ?_; intro w9 r9 s9))
  have S9 := S8.next s9 (fun x hx => .inl (by subst hx; exact hgr))
  refine bodyPost_ret (retA arrB Try.results46 rfl r9 hl8) rfl ⟨?_, S9.below (Nat.le_refl _) (fun _ h => h)⟩
  rw [← hd]; rfl
end Go.Proofs.Yteceapdkgidenaa
