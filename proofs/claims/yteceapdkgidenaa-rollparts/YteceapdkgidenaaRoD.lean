/-
  What Lay of layer 15 returns: no statement is proved here.
-/
import Derived.Test.YteceapdkgidenaaRoC
namespace Go.Proofs.Yteceapdkgidenaa
open Go.ChangeShapes Go.WideShapes Go.ChangeAt Go.RowKit
set_option linter.unusedVariables false
set_option linter.unusedSimpArgs false

theorem BsS.by8 {w : World} {d : Sv} {l : List Int} (h : BsS w d l) : BsS w d (ints (by8 l)) := by rw [ints_by8 h.byte]; exact h
set_option maxRecDepth 100000 in
set_option maxHeartbeats 4000000 in
theorem rlay_no {w : World} (b : Blk) (p : Pt) (d n : Sv) (t : Nat) (hp : p.wfp) (hd : BsS w d p.data) (hf : rfit p = false) :
    Calls Try.prog 9 #[.agg b.cs.toArray, .agg (p.cs d n).toArray, .int .u32 (t : Int)] w fun e w' => e = .returned (.tuple #[.agg (lyB b p t).cs.toArray, .int .i64 (lyE p)]) ∧ Below w.heap.size w w' := by
  have hE : lyB b p t = b ∧ lyE p = 2 := by unfold lyB lyE; rw [hf]; exact ⟨rfl, rfl⟩
  rw [hE.1, hE.2]
  have hb := b.len
  have t1 : True := trivial
  go_enter Try.func9, Try.ntmps9
  go_wp2_with (first
    | (refine at_box 23 64 arrB (by rfl) _ (by rfl) b.l (by rfl) hb ?_; intro gb w1 a1 z1 r1 b1)
    | (refine at_boxP (by rfl) _ (by rfl) p d n (by rfl) ?_; intro g2 w2 a2 z2 r2 b2)
    | (refine at_new 23 64 arrB (by rfl) (by rfl) ?_; intro gr w3 a3 z3 r3 b3
       have B3 := bnext (bnext b1 b2 (Nat.le_refl _)) b3 (Nat.le_refl _))
    | (refine at_getP0 (by rfl) _ (by rfl) g2 (by rfl) p d n (r2.later b3) ?_)
    | (go_at_call 30; refine (rfits_any p d n _ hp (hd.later B3)).mono ?_; rintro e w4 ⟨rfl, b4⟩; rw [hf]
       have x4 := ((r1.later b2).later b3).later b4
       have y4 := r3.later b4)
    | (clear t1; refine at_get 23 64 arrB (by rfl) _ (by rfl) gb (by rfl) _ x4 hb ?_)
    | (refine at_put 23 64 arrB (by rfl) _ _ (by rfl) gr (by rfl) b.l (by rfl) hb _ y4 (by simp) ?_; intro w9 r9 s9))
  have S4 : Stp (fun x => w.heap.size ≤ x) w w4 := Stp.of_below (bnext B3 b4 (Nat.le_refl _)) _
  have hgr : w.heap.size ≤ gr := by have := b1.size; have := b2.size; omega
  exact bodyPost_ret (retAt arrB Try.results9 rfl rfl r9 hb) rfl ⟨rfl, (S4.next s9 (fun x hx => .inl (by subst hx; exact hgr))).below (Nat.le_refl _) (fun _ h => h)⟩
set_option maxRecDepth 100000 in
set_option maxHeartbeats 4000000 in
theorem rlay_raw {w : World} (b : Blk) (p : Pt) (d n : Sv) (t : Nat) (hp : p.wfp) (hd : BsS w d p.data) (hf : rfit p = true) (hk : p.kind = 0) :
    Calls Try.prog 9 #[.agg b.cs.toArray, .agg (p.cs d n).toArray, .int .u32 (t : Int)] w fun e w' => e = .returned (.tuple #[.agg (lyB b p t).cs.toArray, .int .i64 (lyE p)]) ∧ Below w.heap.size w w' := by
  have hE : lyB b p t = lyR b p ∧ lyE p = 0 := by unfold lyB lyE; rw [if_pos hf, if_pos hk, if_pos hf]; exact ⟨rfl, rfl⟩
  rw [hE.1, hE.2]
  obtain ⟨f1, f2, f3, f4⟩ := rfit_to hf
  unfold room at f4
  rw [if_pos hk] at f4
  have hl := lyR_l (b := b) hf hk
  have hL := (lyR b p).len
  have hb := b.len
  have hdn := hd.len
  obtain ⟨o, ho⟩ : ∃ o : Nat, p.off = (o : Int) := ⟨p.off.toNat, by omega⟩
  have ho1 : o ≤ 64 := by omega
  have ho2 : o + d.n ≤ 64 := by omega
  have hoi : p.off.toNat = o := by omega
  rw [hoi] at hl
  have hsub : ∀ u g, (Instr.sliceAt 23 (.pointer (some ⟨g, 0, none⟩)) (some (.int .i64 (o : Int))) none none).run Try.prog u = .ok (.slice (some ⟨g, atEnd 64 o, none⟩) (64 - o) (64 - o)) u := fun u g => run_subE arrB u g o ho1
  have hat : Hid (0 < d.n → atEnd 64 o = o) := fun h => by unfold atEnd; rw [if_neg (by omega)]
  generalize atEnd 64 o = o' at *
  generalize lyR b p = R at *
  have hF := rfits_any p d n
  clear hE f1 f2 f3 f4 hoi hdn
  have hkk : Hid (p.kind = 0) := hk
  have hoo : Hid (p.off = (o : Int)) := ho
  have t1 : True := trivial
  have t2 : True := trivial
  clear hk ho
  go_enter Try.func9, Try.ntmps9
  go_wp2_with (first
    | (refine at_box 23 64 arrB (by rfl) _ (by rfl) b.l (by rfl) hb ?_; intro gb w1 a1 z1 r1 b1)
    | (refine at_boxP (by rfl) _ (by rfl) p d n (by rfl) ?_; intro g2 w2 a2 z2 r2 b2)
    | (refine at_new 23 64 arrB (by rfl) (by rfl) ?_; intro gr w3 a3 z3 r3 b3
       have B3 := bnext (bnext b1 b2 (Nat.le_refl _)) b3 (Nat.le_refl _))
    | (refine at_getP0 (by rfl) _ (by rfl) g2 (by rfl) p d n (r2.later b3) ?_)
    | (go_at_call 30; refine (hF _ hp (hd.later B3)).mono ?_; rintro e w4 ⟨rfl, b4⟩; rw [hf]
       have x4 := ((r1.later b2).later b3).later b4
       have p4 := (r2.later b3).later b4
       have y4 := r3.later b4
       have B4 := bnext B3 b4 (Nat.le_refl _)
       have d4 := (hd.later B4).by8
       obtain ⟨c0, c1, c2, c3, c4, c5, c6, c7, c8⟩ := Pt.cells p4; rw [hkk.out] at c4; rw [hoo.out] at c2; clear c0 c1 c5 c6 c7 c8))
  go_region_law (refine step_copyS rfl (.tmp 18) (.tmp 20) rfl gb o' (64 - o) (64 - o) o d (by simp [Act.eval, Act.put]) (by simp [Act.eval, Act.put]) b.l (by8 p.data) (x4.later (by go_grown)) (d4.later (by go_grown)) (by omega) (by omega) hat.out ?_; intro w5 r5 s5)
  all_goals
    rw [← hl] at r5
    have y5 : Row w5 gr (List.replicate 64 0) := (y4.later (w' := w4.drew) (by go_grown)).step s5 (by have := b2.size; omega)
    clear hl hsub c2 c3 c4 x4 d4 p4 hat hF
    go_wp2_with (first
      | (clear t1; refine at_get 23 64 arrB (by rfl) _ (by rfl) gb (by rfl) _ r5 hL ?_)
      | (clear t2; refine at_put 23 64 arrB (by rfl) _ _ (by rfl) gr (by rfl) R.l (by rfl) hL _ y5 (by simp) ?_; intro w9 r9 s9))
    have S4 : Stp (fun x => w.heap.size ≤ x) w w4.drew := Stp.of_below B4.drew _
    have hgr : w.heap.size ≤ gr := by have := b1.size; have := b2.size; omega
    have S5 := S4.next s5 (fun x hx => .inl (by subst hx; exact a1))
    exact bodyPost_ret (retAt arrB Try.results9 rfl rfl r9 hL) rfl ⟨rfl, (S5.next s9 (fun x hx => .inl (by subst hx; exact hgr))).below (Nat.le_refl _) (fun _ h => h)⟩
set_option maxRecDepth 100000 in
set_option maxHeartbeats 4000000 in
theorem rlay_sealed {w : World} (b : Blk) (p : Pt) (d n : Sv) (t : Nat) (hp : p.wfp) (hd : BsS w d p.data) (ht : t < 4294967296) (hf : rfit p = true) (hk : p.kind ≠ 0) :
    Calls Try.prog 9 #[.agg b.cs.toArray, .agg (p.cs d n).toArray, .int .u32 (t : Int)] w fun e w' => e = .returned (.tuple #[.agg (lyB b p t).cs.toArray, .int .i64 (lyE p)]) ∧ Below w.heap.size w w' := by
  obtain ⟨f1, f2, f3, f4⟩ := rfit_to hf
  have hE : lyB b p t = pB p.kind t (lyS b p) ∧ lyE p = pE p.kind := by
    unfold lyB lyE pE isK
    rw [if_pos hf, if_neg hk, if_pos hf, if_pos (by simp; omega)]; exact ⟨rfl, rfl⟩
  rw [hE.1, hE.2]
  unfold room at f4
  rw [if_neg hk] at f4
  have hl := lyS_l (b := b) hf hk
  have HL := rload_any b p.kind
  have HP := put_any p.kind t (lyS b p)
  have hb := b.len
  have hdn := hd.len
  obtain ⟨o, ho⟩ : ∃ o : Nat, p.off = (o : Int) := ⟨p.off.toNat, by omega⟩
  have ho1 : o ≤ 54 := by omega
  have ho2 : o + d.n ≤ 54 := by omega
  have hoi : p.off.toNat = o := by omega
  rw [hoi] at hl
  have hsub : ∀ u g, (Instr.sliceAt 35 (.pointer (some ⟨g, 0, none⟩)) (some (.int .i64 (o : Int))) none none).run Try.prog u = .ok (.slice (some ⟨g, atEnd 54 o, none⟩) (54 - o) (54 - o)) u := fun u g => run_subE arrL u g o ho1
  have hat : Hid (0 < d.n → atEnd 54 o = o) := fun h => by unfold atEnd; rw [if_neg (by omega)]
  have hq := (gP p.kind b).len
  have hL := (lyS b p).len
  have hR := (pB p.kind t (lyS b p)).len
  generalize atEnd 54 o = o' at *
  generalize pB p.kind t (lyS b p) = R at *
  generalize lyS b p = L at *
  generalize gP p.kind b = q at *
  generalize pE p.kind = e0 at *
  have hF := rfits_any p d n
  clear hE f1 f2 f3 f4 hoi hdn
  have hoo : Hid (p.off = (o : Int)) := ho
  have t1 : True := trivial
  have t2 : True := trivial
  have t3 : True := trivial
  clear ho
  have hll : Hid (L.l = splice q.l o (by8 p.data)) := hl
  clear hl
  go_enter Try.func9, Try.ntmps9
  go_wp2_with (first
    | (refine at_box 23 64 arrB (by rfl) _ (by rfl) b.l (by rfl) hb ?_; intro gb w1 a1 z1 r1 b1)
    | (refine at_boxP (by rfl) _ (by rfl) p d n (by rfl) ?_; intro g2 w2 a2 z2 r2 b2)
    | (refine at_new 23 64 arrB (by rfl) (by rfl) ?_; intro gr w3 a3 z3 r3 b3
       have B3 := bnext (bnext b1 b2 (Nat.le_refl _)) b3 (Nat.le_refl _))
    | (refine at_getP0 (by rfl) _ (by rfl) g2 (by rfl) p d n (r2.later b3) ?_)
    | (go_at_call 30; refine (hF _ hp (hd.later B3)).mono ?_; rintro e w4 ⟨rfl, b4⟩; rw [hf]
       have x4 := ((r1.later b2).later b3).later b4
       have p4 := (r2.later b3).later b4
       have y4 := r3.later b4
       have B4 := bnext B3 b4 (Nat.le_refl _)
       obtain ⟨c0, c1, c2, c3, c4, c5, c6, c7, c8⟩ := Pt.cells p4; clear c0 c1 c2 c3 c5 c6 c7 c8)
    | (clear t1; refine at_get 23 64 arrB (by rfl) _ (by rfl) gb (by rfl) _ x4 hb ?_)
    | (go_at_call 13; refine (HL _).mono ?_; rintro e w5 ⟨rfl, b5⟩; clear c4)
    | (clear t2; refine at_new 35 54 arrL (by rfl) (by rfl) ?_; intro gl w6 a6 z6 r6 b6)
    | (refine at_put 35 54 arrL (by rfl) _ _ (by rfl) gl (by rfl) q.l (by rfl) hq _ r6 (by simp) ?_; intro w7 r7 s7
       have p7 : Cs w7 g2 (p.cs d n) := ((p4.later b5).later b6).step s7 (by have := p4.lt; have := b5.size; omega)
       have y7 : Row w7 gr (List.replicate 64 0) := ((y4.later b5).later b6).step s7 (by have := y4.lt; have := b5.size; omega)
       have S7 : Stp (fun x => w.heap.size ≤ x) w w7 := (Stp.of_below (bnext (bnext B4 b5 (Nat.le_refl _)) b6 (Nat.le_refl _)) _).next s7 (fun x hx => .inl (by subst hx; have := B4.size; have := b5.size; omega))
       have B7 := S7.below (Nat.le_refl _) (fun _ h => h)
       have d7 := (hd.later B7).by8
       obtain ⟨c0, c1, c2, c3, c4, c5, c6, c7, c8⟩ := Pt.cells p7; rw [hoo.out] at c2; clear c0 c1 c5 c6 c7 c8))
  go_region_law (refine step_copyS rfl (.tmp 29) (.tmp 31) rfl gl o' (54 - o) (54 - o) o d (by simp [Act.eval, Act.put]) (by simp [Act.eval, Act.put]) q.l (by8 p.data) (r7.later (by go_grown)) (d7.later (by go_grown)) (by omega) (by omega) hat.out ?_; intro w8 r8 s8)
  all_goals
    rw [← hll.out] at r8
    have hgl : ¬ gr = gl := by have := b4.size; have := b5.size; omega
    have y8 : Row w8 gr (List.replicate 64 0) := (y7.later (w' := w7.drew) (by go_grown)).step s8 hgl
    have p8 : Cs w8 g2 (p.cs d n) := (p7.later (w' := w7.drew) (by go_grown)).step s8 (by have := b4.size; have := b5.size; omega)
    have S8 : Stp (fun x => w.heap.size ≤ x) w w8 := S7.drew.next s8 (fun x hx => .inl (by subst hx; have := B4.size; have := b5.size; omega))
    have hgr : w.heap.size ≤ gr := by have := b1.size; have := b2.size; omega
    clear hll hsub c2 c3 c4 x4 p4 y4 hat hF HL p7 y7 r7 d7 S7 s8
    obtain ⟨c0, c1, c2, c3, c4, c5, c6, c7, c8⟩ := Pt.cells p8
    clear c0 c1 c2 c3 c5 c6 c7 c8
    go_wp2_with (first
      | (clear t3; refine at_get 35 54 arrL (by rfl) _ (by rfl) gl (by rfl) _ r8 hL ?_)
      | (go_at_call 31; refine (HP _ ht).mono ?_; rintro e w9 ⟨rfl, b9⟩; clear c4)
      | (refine at_put 23 64 arrB (by rfl) _ _ (by rfl) gr (by rfl) R.l (by rfl) hR _ (y8.later b9) (by simp) ?_; intro w10 r10 s10))
    exact bodyPost_ret (retAt arrB Try.results9 rfl rfl r10 hR) rfl ⟨rfl, ((S8.next (Stp.of_below b9 (fun _ => False)) (fun x hx => hx.elim)).next s10 (fun x hx => .inl (by subst hx; exact hgr))).below (Nat.le_refl _) (fun _ h => h)⟩
theorem rlay_any {w : World} (b : Blk) (p : Pt) (d n : Sv) (t : Nat) (hp : p.wfp) (hd : BsS w d p.data) (ht : t < 4294967296) :
    Calls Try.prog 9 #[.agg b.cs.toArray, .agg (p.cs d n).toArray, .int .u32 (t : Int)] w fun e w' => e = .returned (.tuple #[.agg (lyB b p t).cs.toArray, .int .i64 (lyE p)]) ∧ Below w.heap.size w w' := by
  cases hf : rfit p
  · exact rlay_no b p d n t hp hd hf
  · by_cases hk : p.kind = 0
    · exact rlay_raw b p d n t hp hd hf hk
    · exact rlay_sealed b p d n t hp hd ht hf hk
end Go.Proofs.Yteceapdkgidenaa
