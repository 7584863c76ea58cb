/-
  The statement PlanTells, proved: for all patches, writes and numbers the law returns true; no condition.
-/
import Derived.Test.YtdfifneikmlmoaaGreatRgK
import Derived.Test.YtdfifneikmlmoaaGreatPrF
namespace Go.Proofs.YtdfifneikmlmoaaGreat.planTells
open Go.ChangeShapes Go.WideShapes Go.ChangeAt Go.RowKit
set_option linter.unusedVariables false
set_option linter.unusedSimpArgs false

theorem buildP0 (w : World) : (Instr.build 44 #[]).run Tryz.prog w = .ok (.agg (Pc.cs ⟨0, 0, 0⟩).toArray) w := by kernel_rfl
theorem at_bldP0 {ops : Array Oper} {rest : List Oper} {o : Oper} {a : Act} {w : World} {Q : Exit → Act → World → Prop} (hw : Region.wanted o (yielded ops a.tmps) = true) (ho : o.op = .build 44 #[])
    (h : wpList Tryz.prog ops Q rest (a.put o.dst (.agg (Pc.cs ⟨0, 0, 0⟩).toArray)) w) : wpList Tryz.prog ops Q (o :: rest) a w := by
  refine op_val hw _ _ ?_ h
  simp [execOp, ho, buildP0]
theorem frS_len {L : List Int} {l : List Pt} (h : frS L l = true) : L.length = 1 := by
  unfold frS at h
  rw [Bool.and_eq_true] at h
  simpa using h.1
theorem btL_facts {Z : GZ} (hok : Z.ok 2000) (hz : Z.l.length ≤ 100) (is : List Int) (n : Nat) : ∀ t ∈ btL is Z n, t.s.length ≤ 400 ∧ (t.f = true → t.s.length = 1) := fun t ht => by
  unfold btL at ht
  obtain ⟨k, _, rfl⟩ := List.mem_map.1 ht
  have h3 := aft_len hok is k
  have h4 := bsS_few (aft_ok hok is k) is
  exact ⟨by show (bsS is (Z.aft is k).l).length ≤ 400; omega, fun h => frS_len h⟩
set_option maxRecDepth 100000 in
set_option maxHeartbeats 8000000 in
theorem walk (a0 : Option Addr) (n0 c0 : Nat) (L : List Pe) (s1 : Sv) (wl : List Int) (s2 : Sv) (l2 : List Int) (w : World) (H : Ps w (fun x => x < w.heap.size) ⟨a0, n0, c0⟩ L) (h1 : InsS w s1 wl) (h2 : InsS w s2 l2) :
    Calls Tryz.prog 3 #[.slice a0 n0 c0, .slice s1.a s1.n s1.c, .slice s2.a s2.n s2.c] w fun e w' => e = .returned (.bool true) ∧ Below w.heap.size w w' := by
  have ld : s2.n ≤ maxLen := Nat.le_trans h2.i.le h2.i.cap
  have le1 := h2.i.le
  have em1 : (min (s2.n : Int) 8) = ((min s2.n 8 : Nat) : Int) := by omega
  have hl8 : (l2.take 8).length ≤ 1000 := by rw [List.length_take]; omega
  have hcut := h2.cut 8
  have hl8' : Hid ((l2.take 8).length ≤ 100000) := by show _ ≤ _; omega
  generalize l2.take 8 = is at *
  clear h2
  have hM := made_any H h1
  have t1 : Hid True := trivial
  have t2 : Hid True := trivial
  have t3 : Hid True := trivial
  have t4 : Hid True := trivial
  have t5 : Hid True := trivial
  have t6 : Hid True := trivial
  have t7 : Hid True := trivial
  have t8 : Hid True := trivial
  have t9 : Hid True := trivial
  have ta : Hid True := trivial
  have tb : Hid True := trivial
  go_enter Tryz.func3, Tryz.ntmps3
  go_wp2_with (first
    | (go_at_call 4; refine hM.mono ?_; rintro e w1 ⟨g, h, rfl, ⟨Z, ⟨E, F, R, B⟩, -⟩, b1⟩
       clear hM H h1
       have hok := B.gh.ok
       have hfew : Z.l.length ≤ 100 := by have := B.few; omega
       obtain ⟨n, hn, hnle⟩ := ends hok is
       have hn100 : n ≤ 100 := by have := nd_len is Z.l; omega
       have hnla := ends_last hok hnle
       have hn6 := B.n6
       have hgh := B.gh
       have hrh := B.rh
       have hbf : Hid (∀ t ∈ btL is Z n, t.s.length ≤ 400 ∧ (t.f = true → t.s.length = 1)) := btL_facts hok hfew is n
       have hSl : (bsS is Z.l).length ≤ 400 := by have := bsS_few hok is; omega
       have hwS := bsS_wfi hok is
       have hAy : ∀ u, Below w1.heap.size w1 u → Calls Tryz.prog 5 #[.pointer (some ⟨h, 0, none⟩)] u fun e w' => ∃ s : Sv, e = .returned (.slice s.a s.n s.c) ∧ InsS w' s (ids (Z.l.filter fun _ => true)) ∧ Below u.heap.size u w' ∧ InE (fun x => u.heap.size ≤ x ∧ x < w'.heap.size) s := fun u hu => by
         obtain ⟨_, _, _, HR⟩ := hrh.later hu
         exact up2 (rall_any HR) rfl (wf_ids hok _)
       have hAx : ∀ u, Below w1.heap.size w1 u → Calls Tryz.prog 13 #[.pointer (some ⟨g, 0, none⟩)] u fun e w' => ∃ s : Sv, e = .returned (.slice s.a s.n s.c) ∧ InsS w' s (ids (Z.l.filter fun _ => true)) ∧ Below u.heap.size u w' ∧ InE (fun x => u.heap.size ≤ x ∧ x < w'.heap.size) s := fun u hu => by
         obtain ⟨_, _, _, _, HG⟩ := hgh.later hu
         exact up2 (all_any HG) rfl (wf_ids hok _)
       have hWy : ∀ u, Below w1.heap.size w1 u → Calls Tryz.prog 15 #[.pointer (some ⟨h, 0, none⟩)] u fun e w' => ∃ s : Sv, e = .returned (.slice s.a s.n s.c) ∧ InsS w' s (ids (Z.l.filter fun p => p.wr)) ∧ Below u.heap.size u w' ∧ InE (fun x => u.heap.size ≤ x ∧ x < w'.heap.size) s := fun u hu => by
         obtain ⟨_, _, _, HR⟩ := hrh.later hu
         exact up2 (rwritten_any HR) rfl (wf_ids hok _)
       have hWx : ∀ u, Below w1.heap.size w1 u → Calls Tryz.prog 14 #[.pointer (some ⟨g, 0, none⟩)] u fun e w' => ∃ s : Sv, e = .returned (.slice s.a s.n s.c) ∧ InsS w' s (ids (Z.l.filter fun p => p.wr)) ∧ Below u.heap.size u w' ∧ InE (fun x => u.heap.size ≤ x ∧ x < w'.heap.size) s := fun u hu => by
         obtain ⟨_, _, _, _, HG⟩ := hgh.later hu
         exact up2 (written_any HG) rfl (wf_ids hok _)
       have hla := len_ids hok (fun _ => true)
       have hlw := len_ids hok (fun p => p.wr)
       have hBa : ∀ u, Below w1.heap.size w1 u → ∀ s3 : Sv, InsS u s3 is → Calls Tryz.prog 6 #[.pointer (some ⟨g, 0, none⟩), .slice s3.a s3.n s3.c] u fun e w' => ∃ v, e = .returned v ∧ BtS w' 35 u.heap.size v (btL is Z n) ∧ Below u.heap.size u w' := fun u hu s3 i3 => by
         obtain ⟨_, _, _, _, HG⟩ := hgh.later hu
         exact batches_any HG i3 hl8 hfew hn6 hn hn100
       have hBb : ∀ u, Below w1.heap.size w1 u → ∀ s3 : Sv, InsS u s3 is → Calls Tryz.prog 8 #[.pointer (some ⟨h, 0, none⟩), .slice s3.a s3.n s3.c] u fun e w' => ∃ v, e = .returned v ∧ BtS w' 38 u.heap.size v (btL is Z n) ∧ Below u.heap.size u w' := fun u hu s3 i3 => rbatches_any (hrh.later hu) i3 hl8 hn hn100 hnla hfew
       have hNx : ∀ u, Below w1.heap.size w1 u → ∀ s3 : Sv, InsS u s3 is → Calls Tryz.prog 9 #[.pointer (some ⟨g, 0, none⟩), .slice s3.a s3.n s3.c] u fun e w' => ∃ v, e = .returned (.tuple #[.agg (btc v (frS (bsS is Z.l) Z.l)).toArray, .bool (mor is Z.l)]) ∧ OwV w' v (bsS is Z.l) ∧ New u.heap.size v ∧ Below u.heap.size u w' := fun u hu s3 i3 => by
         obtain ⟨_, _, _, _, HG⟩ := hgh.later hu
         exact next_any HG i3 hl8 hfew hn6
       have hRx : ∀ u, Below w1.heap.size w1 u → ∀ s3 : Sv, InsS u s3 is → Calls Tryz.prog 10 #[.pointer (some ⟨h, 0, none⟩), .slice s3.a s3.n s3.c] u fun e w' => ∃ v, e = .returned (.tuple #[.agg (btc v (frS (bsS is Z.l) Z.l)).toArray, .bool (mor is Z.l)]) ∧ OwV w' v (bsS is Z.l) ∧ New u.heap.size v ∧ Below u.heap.size u w' := fun u hu s3 i3 => by
         obtain ⟨_, _, _, HR⟩ := hrh.later hu
         exact rnext_any HR i3 hl8
       have hc1 := hcut.later b1
       generalize ids (Z.l.filter fun _ => true) = IA at *
       generalize ids (Z.l.filter fun p => p.wr) = IW at *
       generalize hbl : btL is Z n = BL at *
       generalize hmo : mor is Z.l = mo at *
       generalize hfr : frS (bsS is Z.l) Z.l = fr at *
       have hBLl : BL.length = n := by rw [← hbl, btL_len]
       have hBLl' : Hid (BL.length = n) := hBLl
       clear hBLl hbl hmo hfr)
    | (go_at_call 5; clear t1; refine (hAy _ (Below.refl _ _)).mono ?_; rintro e w2 ⟨sw, rfl, iw, b2, -⟩)
    | (go_at_call 7; clear t2; refine (gints_any (hc1.later b2) hl8'.out).mono ?_; rintro e w3 ⟨s3, rfl, i3, -, b3⟩
       have B3 := bnext b2 b3 (Nat.le_refl _))
    | (go_at_call 6; refine (hBa _ B3 s3 i3).mono ?_; rintro e w4 ⟨v4, rfl, L4, b4⟩; clear hBa
       have B4 := bnext B3 b4 (Nat.le_refl _))
    | (go_at_call 8; refine (hBb _ B4 ⟨s2.a, min s2.n 8, s2.c⟩ (hc1.later B4)).mono ?_; rintro e w5 ⟨v5, rfl, L5, b5⟩; clear hBb
       have B5 := bnext B4 b5 (Nat.le_refl _))
    | (go_at_call 7; refine (gints_any (hc1.later B5) hl8'.out).mono ?_; rintro e w6 ⟨s6, rfl, i6, -, b6⟩
       have B6 := bnext B5 b6 (Nat.le_refl _))
    | (go_at_call 9; refine (hNx _ B6 s6 i6).mono ?_; rintro e w7 ⟨v7, rfl, o7, n7, b7⟩; clear hNx
       have v7one := o7.one)
    | (clear t3; refine at_newBt (by rfl) (by rfl) ?_; intro g12 w8 a8 a8' r8 b8)
    | (clear t4; refine at_putBt (by rfl) _ _ (by rfl) g12 (by rfl) v7 v7one fr (by rfl) _ r8 rfl ?_; intro w8' r8' s8'
       have B78 : Below w7.heap.size w7 w8' := ((Stp.of_below b8 (fun _ => False)).next s8' (fun x e => .inr (by omega))).below (Nat.le_refl _) (fun x e => e.elim)
       have B68 := bnext b7 B78 (Nat.le_refl _)
       have B8 := bnext B6 B68 (Nat.le_refl _))
    | (go_at_call 10; refine (hRx _ B8 ⟨s2.a, min s2.n 8, s2.c⟩ (hc1.later B8)).mono ?_; rintro e w9 ⟨v9, rfl, o9, n9, b9⟩; clear hRx
       have v9one := o9.one)
    | (clear t5; refine at_newBr (by rfl) (by rfl) ?_; intro g14 w10 a10 a10' r10 b10)
    | (clear t6; refine at_putBr (by rfl) _ _ (by rfl) g14 (by rfl) v9 v9one fr (by rfl) _ r10 rfl ?_; intro w11 r11 s11
       have B911 : Below w9.heap.size w9 w11 := ((Stp.of_below b10 (fun _ => False)).next s11 (fun x e => .inr (by omega))).below (Nat.le_refl _) (fun x e => e.elim)
       have B811 := bnext b9 B911 (Nat.le_refl _)
       have B11 := bnext B8 B811 (Nat.le_refl _)
       have r1211 := r8'.later B811
       have L411 := L4.later (bnext (bnext b5 b6 (Nat.le_refl _)) (bnext B68 B811 (Nat.le_refl _)) (Nat.le_refl _))
       have L511 := L5.later (bnext b6 (bnext B68 B811 (Nat.le_refl _)) (Nat.le_refl _))
       have o711 := (o7.later B78).later B811
       have o911 := o9.later B911
       have hSame := same16_any L411 L511 (by have := hBLl'.out; omega) (fun t ht => (hbf.out t ht).1)
       have iw11 := iw.later (bnext (bnext (bnext b3 b4 (Nat.le_refl _)) b5 (Nat.le_refl _)) (bnext b6 (bnext B68 B811 (Nat.le_refl _)) (Nat.le_refl _)) (Nat.le_refl _))
       obtain ⟨⟨xa, xn, xc⟩, ex, -, i711, j711⟩ := o711.ins hwS n7
       have j7 : InE (fun x => w1.heap.size ≤ x) ⟨xa, xn, xc⟩ := j711.mono (fun x hx => by have := hx.1; have := B6.size; omega)
       clear j711
       have exv : v7 = .slice xa xn xc := ex
       clear ex
       subst exv
       obtain ⟨⟨ya, yn, yc⟩, ey, -, i911, j911⟩ := o911.ins hwS n9
       have j9 : InE (fun x => w1.heap.size ≤ x) ⟨ya, yn, yc⟩ := j911.mono (fun x hx => by have := hx.1; have := B8.size; omega)
       clear j911
       have eyv : v9 = .slice ya yn yc := ey
       clear ey
       subst eyv)
    | (go_at_call 11; refine hSame.mono ?_; rintro e w12 ⟨rfl, b12⟩; clear hSame
       have x0 := (r1211.later b12).cell 0 _ rfl
       have x1 := (r1211.later b12).cell 1 _ rfl
       have y0 := (r11.later b12).cell 0 _ rfl
       have y1 := (r11.later b12).cell 1 _ rfl)
    | (go_at_call 12; clear t7; refine (same_any (a := ⟨xa, xn, xc⟩) (b := ⟨ya, yn, yc⟩) (i711.later b12) (i911.later b12) (by omega)).mono ?_; rintro e w13 ⟨rfl, b13⟩
       have B1213 := bnext b12 b13 (Nat.le_refl _)
       have z1 := (r1211.later B1213).cell 1 _ rfl
       have z3 := (r11.later B1213).cell 1 _ rfl
       have B13 := bnext B11 B1213 (Nat.le_refl _))
    | (go_at_call 13; refine (hAx _ B13).mono ?_; rintro e w14 ⟨s14, rfl, i14, b14, -⟩
       have B1114 := bnext B1213 b14 (Nat.le_refl _)
       have B14 := bnext B11 B1114 (Nat.le_refl _))
    | (go_at_call 12; clear t8; refine (same_any (a := s14) (b := sw) i14 (iw11.later B1114) hla).mono ?_; rintro e w15 ⟨rfl, b15⟩
       have B1115 := bnext B1114 b15 (Nat.le_refl _)
       have B15 := bnext B11 B1115 (Nat.le_refl _))
    | (go_at_call 14; refine (hWx _ B15).mono ?_; rintro e w16 ⟨s16, rfl, i16, b16, -⟩
       have B1116 := bnext B1115 b16 (Nat.le_refl _)
       have B16 := bnext B11 B1116 (Nat.le_refl _))
    | (go_at_call 15; refine (hWy _ B16).mono ?_; rintro e w17 ⟨s17, rfl, i17, b17, -⟩
       have B1117 := bnext B1116 b17 (Nat.le_refl _))
    | (go_at_call 12; refine (same_any (a := s16) (b := s17) (i16.later b17) i17 hlw).mono ?_; rintro e w18 ⟨rfl, b18⟩
       have B1118 := bnext B1117 b18 (Nat.le_refl _)
       have B18 := bnext B11 B1118 (Nat.le_refl _))
    | (clear t9; refine at_bldP0 (by rfl) (by rfl) ?_)
    | (clear ta; refine at_newC 44 3 _ srtPc (by rfl) (by rfl) ?_; intro g16 w19 a19 a19' r19 b19)
    | (clear tb; refine at_putC 44 3 _ srtPc (by rfl) _ _ (by rfl) g16 (by rfl) (Pc.cs ⟨0, 0, 0⟩) (by rfl) rfl (Pc.cs_one _) _ r19 rfl ?_; intro w20 r20 s20))
  have B1820 : Below w18.heap.size w18 w20 := ((Stp.of_below b19 (fun _ => False)).next s20 (fun x e => .inr (by omega))).below (Nat.le_refl _) (fun x e => e.elim)
  have L418 := L411.later B1118
  have L518 := L511.later B1118
  have r1218 := r1211.later B1118
  have r1418 := r11.later B1118
  have i718 := i711.later B1118
  have i918 := i911.later B1118
  obtain ⟨pa, pc, hpv⟩ := L418.shape
  subst hpv
  obtain ⟨qa, qc, hqv⟩ := L518.shape
  subst hqv
  have hBLn : BL.length ≤ 100 := by have := hBLl'.out; omega
  have hz18 : w1.heap.size ≤ w18.heap.size := B18.size
  have hgg : g12 < w18.heap.size ∧ g14 < w18.heap.size := ⟨r1218.lt, r1418.lt⟩
  have hz13 : w1.heap.size ≤ w3.heap.size := B3.size
  have hg12 : w1.heap.size ≤ g12 ∧ w1.heap.size ≤ g14 := ⟨by have := B6.size; have := b7.size; omega, by have := B8.size; have := b9.size; omega⟩
  have hfl : Hid (∀ t ∈ BL, t.s.length ≤ 400 ∧ (t.f = true → t.s.length = 1)) := hbf.out
  clear x0 x1 y0 y1 z1 z3 hAx hAy hWx hWy hla hlw hc1 iw iw11 i14 i16 i17 i3 i6 o7 o9 o711 o911 r8 r8' r10 r11 r1211 s8' s11 s20 r19 b19 b2 b3 b4 b5 b6 b7 b8 b9 b10 b12 b13 b14 b15 b16 b17 b18 B3 B4 B5 B6 B78 B68 B8 B911 B811 B1213 B1114 B1115 B1116 B1117 B14 B15 B16 B13 L4 L5 L411 L511 i711 i911 v7one v9one hcut hnla hnle hn hn100 hbf hBLl'
  go_loopw [17] (fun u wr => ∃ k : Nat, k ≤ BL.length ∧ u = .int .i64 (k : Int) ∧ Below w18.heap.size w18 wr ∧ Cs wr g16 (cst (BL.take k)).cs ∧ (cst (BL.take k)).sm (k * 400)) (fun u _ => BL.length - (intOf u).toNat)
  case atStart => exact ⟨0, Nat.zero_le _, rfl, B1820, r20, by rw [List.take_zero]; exact ⟨⟨by decide, by decide⟩, ⟨by decide, by decide⟩, ⟨by decide, by decide⟩⟩⟩
  case round =>
    clear r20 B1820
    rename World => wq
    obtain ⟨k, hk, rfl, hB, c2, hsm⟩ := hrel
    by_cases hlt : k < BL.length
    · obtain ⟨t, ht⟩ : ∃ t, BL[k]? = some t := ⟨_, List.getElem?_eq_getElem hlt⟩
      obtain ⟨qb, qs, rfl, cq0, cq1, iq, -⟩ := (L518.later hB).at k t ht
      have hft := hfl.out t (List.mem_of_getElem? ht)
      have hM : Hid (cst (BL.take (k + 1)) = (cst (BL.take k)).more t) := by
        show _ = _
        rw [List.take_add_one, ht]; exact cst_snoc _ _
      have hS : Hid ((cst (BL.take (k + 1))).sm ((k + 1 : Nat) * 400)) := by
        show Pc.sm _ _
        rw [hM.out]
        have := hsm.more hft.1
        rw [show ((k + 1 : Nat) : Int) * 400 = (k : Int) * 400 + 400 by omega]; exact this
      have hqn : qs.n = t.s.length := iq.i.len.symm
      clear ht iq
      obtain ⟨ts, tf⟩ := t
      simp only at hqn cq1 hft
      obtain ⟨qsa, qsn, qsc⟩ := qs
      simp only at hqn cq0
      subst hqn
      generalize cst (BL.take k) = p at *
      obtain ⟨pw, pf, pn⟩ := p
      obtain ⟨⟨q1, q2⟩, ⟨q3, q4⟩, ⟨q5, q6⟩⟩ := hsm
      simp only at q1 q2 q3 q4 q5 q6
      have a9 : (k : Int) < (BL.length : Int) := by omega
      have a8 : (0 : Int) ≤ (k : Int) := by omega
      have hkb : (k : Int) ≤ 100 := by omega
      have hfl1 := hft.1
      have wr1 : IntKind.i64.wrap (pf + 1) = pf + 1 := by rw [IntKind.wrap_i64]; omega
      have wr2 : IntKind.i64.wrap (pw + ts.length) = pw + ts.length := by rw [IntKind.wrap_i64]; omega
      have wr3 : IntKind.i64.wrap (pn + 1) = pn + 1 := by rw [IntKind.wrap_i64]; omega
      have t1 : Hid True := trivial
      clear q1 q2 q3 q4 q5 q6
      cases tf with
      | true =>
        have hts : ts.length = 1 := hft.2 rfl
        have eM : Hid (cst (BL.take (k + 1)) = ⟨pw, pf + 1, pn⟩) := by
          show _ = _
          rw [hM.out]
          unfold Pc.more
          simp [hts]
        have e1 := c2.cell 1 _ rfl
        clear hM wr2 wr3 hts hft hfl1
        go_wp2_with (first
          | (clear t1; refine at_setC 3 .i64 szInt (by rfl) _ _ (by rfl) g16 1 (by rfl) _ (by rfl) _ c2 (by exact (show 1 < 3 by decide)) ?_; intro w5 r5 s5))
        have B5 : Below w18.heap.size w18 w5 := ((Stp.of_below hB (fun _ => False)).next s5 (fun x e => .inr (by omega))).below (Nat.le_refl _) (fun x e => e.elim)
        clear e1 cq0 cq1
        go_wp2_with fail
        go_roundw
        case rel => exact ⟨k + 1, by omega, by go_num, B5, by rw [eM.out]; exact r5, hS.out⟩
        case measure => simp [intOf]; omega
      | false =>
        have eM : Hid (cst (BL.take (k + 1)) = ⟨pw + ts.length, pf, pn + 1⟩) := hM.out
        clear hM wr1 hft hfl1
        go_wp2_with fail
        refine wp_region_last (S := fun u => Below wq.heap.size wq u) _ _ (by simp only [List.pop_toArray, List.dropLast_cons_cons, List.dropLast_singleton]; rfl) (by simp only [List.back?_toArray, List.getLast?_cons_cons, List.getLast?_singleton]; rfl) (by kernel_rfl) (by kernel_rfl) (Below.refl _ _).drew (fun hHeld => ?_)
        refine wpAnyH_take (i := 0) (oi := { dst := some 108, op := Op.fieldAddr 44 (Operand.tmp 16) 0, type := 0, pos := _, after := #[], guard := none }) (v := .pointer (some ⟨g16, 0, none⟩)) rfl (by kernel_rfl) (by kernel_rfl) (by kernel_rfl) (fun _ _ _ h => h) (Or.inl ⟨by rfl, ?_⟩) hHeld ?_
        · intro u hu
          go_simp
        try simp only [Act.put, List.setIfInBounds_toArray, List.set_cons_zero, List.set_cons_succ]
        refine wpAnyH_take (i := 1) (oi := { dst := some 109, op := Op.load 3 (Operand.tmp 108), type := 3, pos := _, after := #[{ on := 0, ground := Ground.data }], guard := none }) (v := .int .i64 pw) rfl (by kernel_rfl) (by kernel_rfl) (by kernel_rfl) (fun _ _ _ h => h) (Or.inl ⟨by rfl, ?_⟩) hHeld ?_
        · intro u hu
          have x1 := (c2.later hu).cell 0 _ rfl; go_simp
        try simp only [Act.put, List.setIfInBounds_toArray, List.set_cons_zero, List.set_cons_succ]
        refine wpAnyH_take (i := 2) (oi := { dst := some 110, op := Op.move (Operand.tmp 11), type := 32, pos := _, after := #[], guard := none }) (v := .slice (some ⟨qb, 0, none⟩) BL.length qc) rfl (by kernel_rfl) (by kernel_rfl) (by kernel_rfl) (fun _ _ _ h => h) (Or.inl ⟨by rfl, ?_⟩) hHeld ?_
        · intro u hu
          go_simp
        try simp only [Act.put, List.setIfInBounds_toArray, List.set_cons_zero, List.set_cons_succ]
        refine wpAnyH_take (i := 3) (oi := { dst := some 111, op := Op.move (Operand.tmp 17), type := 3, pos := _, after := #[], guard := none }) (v := .int .i64 (k : Int)) rfl (by kernel_rfl) (by kernel_rfl) (by kernel_rfl) (fun _ _ _ h => h) (Or.inl ⟨by rfl, ?_⟩) hHeld ?_
        · intro u hu
          go_simp
        try simp only [Act.put, List.setIfInBounds_toArray, List.set_cons_zero, List.set_cons_succ]
        refine wpAnyH_take (i := 4) (oi := { dst := some 112, op := Op.indexAddr 32 (Operand.tmp 110) (Operand.tmp 111), type := 0, pos := _, after := #[{ on := 2, ground := Ground.data }, { on := 3, ground := Ground.data }], guard := none }) (v := .pointer (some ⟨qb, k * 2, none⟩)) rfl (by kernel_rfl) (by kernel_rfl) (by kernel_rfl) (fun _ _ _ h => h) (Or.inl ⟨by rfl, ?_⟩) hHeld ?_
        · intro u hu
          go_simp
        try simp only [Act.put, List.setIfInBounds_toArray, List.set_cons_zero, List.set_cons_succ]
        refine wpAnyH_take (i := 5) (oi := { dst := some 113, op := Op.fieldAddr 38 (Operand.tmp 112) 0, type := 0, pos := _, after := #[{ on := 4, ground := Ground.data }], guard := none }) (v := .pointer (some ⟨qb, k * 2, none⟩)) rfl (by kernel_rfl) (by kernel_rfl) (by kernel_rfl) (fun _ _ _ h => h) (Or.inl ⟨by rfl, ?_⟩) hHeld ?_
        · intro u hu
          go_simp
        try simp only [Act.put, List.setIfInBounds_toArray, List.set_cons_zero, List.set_cons_succ]
        refine wpAnyH_take (i := 6) (oi := { dst := some 114, op := Op.load 23 (Operand.tmp 113), type := 23, pos := _, after := #[{ on := 5, ground := Ground.data }], guard := none }) (v := .slice qsa ts.length qsc) rfl (by kernel_rfl) (by kernel_rfl) (by kernel_rfl) (fun _ _ _ h => h) (Or.inl ⟨by rfl, ?_⟩) hHeld ?_
        · intro u hu
          have x1 := (Stp.of_below hu (fun _ => False)).cell cq0 id; go_simp
        try simp only [Act.put, List.setIfInBounds_toArray, List.set_cons_zero, List.set_cons_succ]
        refine wpAnyH_take (i := 7) (oi := { dst := some 115, op := Op.call { callee := Callee.builtin Builtin.len, args := #[Operand.tmp 114], argTypes := #[23] }, type := 3, pos := _, after := #[{ on := 6, ground := Ground.data }], guard := none }) (v := .int .i64 (ts.length : Int)) rfl (by kernel_rfl) (by kernel_rfl) (by kernel_rfl) (fun _ _ _ h => h) (Or.inl ⟨by rfl, ?_⟩) hHeld ?_
        · intro u hu
          go_simp
        try simp only [Act.put, List.setIfInBounds_toArray, List.set_cons_zero, List.set_cons_succ]
        refine wpAnyH_take (i := 8) (oi := { dst := some 116, op := Op.binOp BinOp.add 3 (Operand.tmp 109) (Operand.tmp 115) 3, type := 3, pos := _, after := #[{ on := 1, ground := Ground.data }, { on := 7, ground := Ground.data }], guard := none }) (v := .int .i64 (pw + ts.length)) rfl (by kernel_rfl) (by kernel_rfl) (by kernel_rfl) (fun _ _ _ h => h) (Or.inl ⟨by rfl, ?_⟩) hHeld ?_
        · intro u hu
          go_simp
        try simp only [Act.put, List.setIfInBounds_toArray, List.set_cons_zero, List.set_cons_succ]
        refine wpAnyH_take (i := 9) (oi := { dst := some 117, op := Op.fieldAddr 44 (Operand.tmp 16) 0, type := 0, pos := _, after := #[{ on := 0, ground := Ground.phase }, { on := 1, ground := Ground.phase }, { on := 2, ground := Ground.phase }, { on := 3, ground := Ground.phase }, { on := 4, ground := Ground.phase }, { on := 5, ground := Ground.phase }, { on := 6, ground := Ground.phase }, { on := 7, ground := Ground.phase }, { on := 8, ground := Ground.phase }], guard := none }) (v := .pointer (some ⟨g16, 0, none⟩)) rfl (by kernel_rfl) (by kernel_rfl) (by kernel_rfl) (fun _ _ _ h => h) (Or.inl ⟨by rfl, ?_⟩) hHeld ?_
        · intro u hu
          go_simp
        try simp only [Act.put, List.setIfInBounds_toArray, List.set_cons_zero, List.set_cons_succ]
        refine wpAnyH_done (by kernel_rfl) ?_ _
        have c3 := c2.later hHeld
        have B3 := bnext hB hHeld (Nat.le_refl _)
        generalize wq.drew = w3 at *
        show wpList _ _ _ [_] _ _
        refine at_setC 3 .i64 szInt (by rfl) _ _ (by rfl) g16 0 (by rfl) (pw + ts.length) (by rfl) _ c3 (by exact (show 0 < 3 by decide)) ?_
        intro w4 r4 s4
        have e2 := r4.cell 2 _ rfl
        clear hHeld cq0 cq1
        simp only [Act.put]
        go_wp2_with (first
          | (clear t1; refine at_setC 3 .i64 szInt (by rfl) _ _ (by rfl) g16 2 (by rfl) _ (by rfl) _ r4 (by exact (show 2 < 3 by decide)) ?_; intro w5 r5 s5))
        have B5 : Below w18.heap.size w18 w5 := (((Stp.of_below B3 (fun _ => False)).next s4 (fun x e => .inr (by omega))).next s5 (fun x e => .inr (by omega))).below (Nat.le_refl _) (fun x e => e.elim)
        clear e2
        go_wp2_with fail
        go_roundw
        case rel => exact ⟨k + 1, by omega, by go_num, B5, by rw [eM.out]; exact r5, hS.out⟩
        case measure => simp [intOf]; omega
    · have a9 : ¬ (k : Int) < (BL.length : Int) := by omega
      rw [List.take_of_length_le (by omega)] at c2
      clear hsm
      have Bq : Below w1.heap.size w1 wq := bnext B18 hB (Nat.le_refl _)
      have hzq := hB.size
      have hFl : ∀ x, F x → x < w1.heap.size := B.gh.lt.1
      have hhl : h < w1.heap.size := B.rh.lt.1
      have hFh : ∀ x, F x → x ≠ h := fun x hx => (B.hF x hx).2.1
      have hEh : ∀ x, E x → x ≠ h := fun x hx => (B.hE x hx).2
      have hFR : ∀ x, R x → ¬ F x := fun x hx hf => (B.hF x hf).2.2 hx
      have hFN : ∀ x, F x → w.heap.size ≤ x := fun x hx => (B.hF x hx).1
      have hhN : w.heap.size ≤ h := B.hN
      have hnl := B.nl
      have hCx : ∀ u, Below wq.heap.size wq u → Calls Tryz.prog 16 #[.pointer (some ⟨g, 0, none⟩), .agg (btc (.slice xa xn xc) fr).toArray] u fun e w' => ∃ v, e = .returned v ∧ OwV w' v (Z.crO (bsS is Z.l)) ∧ New u.heap.size v ∧ Gh w' g (Z.car (bsS is Z.l)) E F ∧ Stp F u w' := fun u hu => carry_any (s := ⟨xa, xn, xc⟩) ((hgh.later Bq).later hu) hnl ((i718.later hB).later hu) j7 (fun x hx hf => by have := hFl x hf; omega) hSl fr
      have hCy : ∀ u, Rh u h Z R → InsS u ⟨ya, yn, yc⟩ (bsS is Z.l) → Calls Tryz.prog 17 #[.pointer (some ⟨h, 0, none⟩), .agg (btc (.slice ya yn yc) fr).toArray] u fun e w' => ∃ v, e = .returned v ∧ OwV w' v (Z.crO (bsS is Z.l)) ∧ New u.heap.size v ∧ (∃ R', Rh w' h (Z.car (bsS is Z.l)) R' ∧ ∀ x, R' x → R x ∨ u.heap.size ≤ x) ∧ Stp (fun x => x = h) u w' := fun u hu iu => rcarry_any (s := ⟨ya, yn, yc⟩) hu iu (j9.mono (fun x hx e => by omega)) hSl fr
      have hOw : ∀ x ∈ Z.crO (bsS is Z.l), wfi x := fun x hx => by
        obtain ⟨p, h3, h4, _⟩ := crO_facts _ _ hok.srt x hx
        rw [← h4]; exact (hok.wfp h3).i
      have hOl : (Z.crO (bsS is Z.l)).length ≤ 100000 := by
        have h3 := crO_few (bsS is Z.l) Z hok
        have h4 := bsS_few hok is
        have : (bsS is Z.l).length * 2000 ≤ 30 * 2000 := Nat.mul_le_mul_right _ (by have := B.few; omega)
        omega
      have hrq := (hrh.later Bq)
      have i9q := i918.later hB
      have r12q := r1218.later hB
      have r14q := r1418.later hB
      have L4q := L418.later hB
      have hSl2 := hSl
      clear r1218 r1418 i718 i918 L418 L518
      generalize Z.crO (bsS is Z.l) = O at *
      generalize hZ2 : Z.car (bsS is Z.l) = Z2 at *
      have hZ2' : Hid (Z.car (bsS is Z.l) = Z2) := hZ2
      clear hZ2
      go_wp2_with fail
      refine wp_region_held_drew (S := fun u => Cs u g12 (btc (.slice xa xn xc) fr) ∧ Cs u g14 (btc (.slice ya yn yc) fr)) (by kernel_rfl) ⟨r12q.later (Below.refl _ _).drew, r14q.later (Below.refl _ _).drew⟩ (fun hHeld => ?_)
      refine wpAnyH_take (i := 0) (oi := { dst := some 122, op := Op.move (Operand.tmp 7), type := 24, pos := _, after := #[], guard := none }) (v := .pointer (some ⟨g, 0, none⟩)) rfl (by kernel_rfl) (by kernel_rfl) (by kernel_rfl) (fun _ _ _ h => h) (Or.inl ⟨by rfl, ?_⟩) hHeld ?_
      · intro u hu
        go_simp
      try simp only [Act.put, List.setIfInBounds_toArray, List.set_cons_zero, List.set_cons_succ]
      refine wpAnyH_take (i := 1) (oi := { dst := some 123, op := Op.load 35 (Operand.tmp 12), type := 35, pos := _, after := #[], guard := none }) (v := .agg (btc (.slice xa xn xc) fr).toArray) rfl (by kernel_rfl) (by kernel_rfl) (by kernel_rfl) (fun _ _ _ h => h)
        (yields_C 35 2 _ srtBt (by rfl) _ (by rfl) g12 (by rfl) _ rfl (fun u hu => hu.1)) hHeld ?_
      try simp only [Act.put, List.setIfInBounds_toArray, List.set_cons_zero, List.set_cons_succ]
      refine wpAnyH_take (i := 3) (oi := { dst := some 125, op := Op.move (Operand.tmp 8), type := 25, pos := _, after := #[], guard := none }) (v := .pointer (some ⟨h, 0, none⟩)) rfl (by kernel_rfl) (by kernel_rfl) (by kernel_rfl) (fun _ _ _ h => h) (Or.inl ⟨by rfl, ?_⟩) hHeld ?_
      · intro u hu
        go_simp
      try simp only [Act.put, List.setIfInBounds_toArray, List.set_cons_zero, List.set_cons_succ]
      refine wpAnyH_take (i := 4) (oi := { dst := some 126, op := Op.load 38 (Operand.tmp 14), type := 38, pos := _, after := #[], guard := none }) (v := .agg (btc (.slice ya yn yc) fr).toArray) rfl (by kernel_rfl) (by kernel_rfl) (by kernel_rfl) (fun _ _ _ h => h)
        (yields_C 38 2 _ srtBr (by rfl) _ (by rfl) g14 (by rfl) _ rfl (fun u hu => hu.2)) hHeld ?_
      try simp only [Act.put, List.setIfInBounds_toArray, List.set_cons_zero, List.set_cons_succ]
      refine wpAnyH_ready (rs := [2]) (by kernel_rfl) (by simp) ?_
      refine (AllReadyH.cons (o := { dst := some 124, op := Op.call { callee := Callee.value (Operand.func 16), args := #[Operand.tmp 122, Operand.tmp 123], argTypes := #[24, 35] }, type := 23, pos := _, after := #[{ on := 0, ground := Ground.data }, { on := 1, ground := Ground.data }], guard := none }) rfl (fun K hK => ?_) AllReadyH.nil)
      go_simp
      refine (hCx _ (Below.refl _ _).drew).mono ?_
      rintro e w21 ⟨v21, rfl, o21, n21, g21, s21⟩
      try go_wp2_with fail
      refine hK.out _ _ (⟨hHeld.1.step s21 (fun e => by have := hFl g12 e; omega), hHeld.2.step s21 (fun e => by have := hFl g14 e; omega)⟩) (fun hHeld => ?_)
      clear hK K
      try simp only [Act.put, List.setIfInBounds_toArray, List.set_cons_zero, List.set_cons_succ]
      refine wpAnyH_ready (rs := [5]) (by kernel_rfl) (by simp) ?_
      refine (AllReadyH.cons (o := { dst := some 127, op := Op.call { callee := Callee.value (Operand.func 17), args := #[Operand.tmp 125, Operand.tmp 126], argTypes := #[25, 38] }, type := 23, pos := _, after := #[{ on := 3, ground := Ground.data }, { on := 4, ground := Ground.data }, { on := 2, ground := Ground.chain }], guard := none }) rfl (fun K hK => ?_) AllReadyH.nil)
      go_simp
      refine (hCy _ ((hrq.later (Below.refl _ _).drew).step s21 (fun e => hFh h e rfl) hFR) ((i9q.later (Below.refl _ _).drew).step s21 j9 (fun x hx hf => by have := hFl x hf; omega))).mono ?_
      rintro e w22 ⟨v22, rfl, o22, n22, ⟨R22, h22, -⟩, s22⟩
      try go_wp2_with fail
      refine hK.out _ _ (⟨hHeld.1.step s22 (fun e => by omega), hHeld.2.step s22 (fun e => by omega)⟩) (fun hHeld => ?_)
      clear hK K
      try simp only [Act.put, List.setIfInBounds_toArray, List.set_cons_zero, List.set_cons_succ]
      refine wpAnyH_take (i := 6) (oi := { dst := some 18, op := Op.assign (Operand.tmp 124), type := 23, pos := _, after := #[{ on := 2, ground := Ground.data }, { on := 5, ground := Ground.chain }, { on := 0, ground := Ground.phase }, { on := 1, ground := Ground.phase }, { on := 2, ground := Ground.phase }, { on := 3, ground := Ground.textOnly Departure.lateStores }, { on := 4, ground := Ground.textOnly Departure.lateStores }, { on := 5, ground := Ground.textOnly Departure.lateStoresUnsure }], guard := none }) (v := v21) rfl (by kernel_rfl) (by kernel_rfl) (by kernel_rfl) (fun _ _ _ h => h) (Or.inl ⟨by rfl, ?_⟩) hHeld ?_
      · intro u hu
        go_simp
      try simp only [Act.put, List.setIfInBounds_toArray, List.set_cons_zero, List.set_cons_succ]
      refine wpAnyH_take (i := 7) (oi := { dst := some 19, op := Op.assign (Operand.tmp 127), type := 23, pos := _, after := #[{ on := 5, ground := Ground.data }, { on := 6, ground := Ground.chain }, { on := 0, ground := Ground.phase }, { on := 1, ground := Ground.phase }, { on := 2, ground := Ground.phase }, { on := 3, ground := Ground.phase }, { on := 4, ground := Ground.phase }, { on := 5, ground := Ground.phase }, { on := 6, ground := Ground.phase }], guard := none }) (v := v22) rfl (by kernel_rfl) (by kernel_rfl) (by kernel_rfl) (fun _ _ _ h => h) (Or.inl ⟨by rfl, ?_⟩) hHeld ?_
      · intro u hu
        go_simp
      try simp only [Act.put, List.setIfInBounds_toArray, List.set_cons_zero, List.set_cons_succ]
      refine wpAnyH_done (by kernel_rfl) ?_ _
      have zd : wq.drew.heap.size = wq.heap.size := rfl
      have z21 := s21.size
      have z22 := s22.size
      have bd : Below wq.heap.size wq wq.drew := (Below.refl _ _).drew
      have o2122 := o21.step s22 (fun r hr e => by have := n21 r hr; omega)
      have g22 : Gh w22 g Z2 E F := by obtain ⟨_, _, _, _, HG⟩ := g21; exact ⟨_, _, _, _, HG.step s22 (fun x hx e => hFh x hx e) (fun x hx e => hEh x hx e)⟩
      have hok2 : Z2.ok 2000 := Gh.ok g22
      have c22 := ((c2.later bd).step s21 (fun e => by have := hFl g16 e; omega)).step s22 (fun e => by omega)
      have L422 := ((L4q.later bd).step s21 (fun x e => .inl (by have := hFl x e; omega))).step s22 (fun x e => .inl (by omega))
      have Bw22 : Below w.heap.size w w22 := ((bnext (bnext b1 Bq (Nat.le_refl _)) bd (Nat.le_refl _)).trans (s21.below (bnext (bnext b1 Bq (Nat.le_refl _)) bd (Nat.le_refl _)).size (fun x e => hFN x e))).trans (s22.below (by have := (bnext b1 Bq (Nat.le_refl _)).size; omega) (fun x e => by omega))
      obtain ⟨⟨ma, mn, mc⟩, em, -, im, -⟩ := o2122.ins hOw n21
      have emv : v21 = .slice ma mn mc := em
      clear em
      subst emv
      obtain ⟨⟨na, nn, nc⟩, en, -, ib, -⟩ := o22.ins hOw n22
      have env : v22 = .slice na nn nc := en
      clear en
      subst env
      have hCo : ∀ u, Below w22.heap.size w22 u → Calls Tryz.prog 18 #[.slice pa BL.length pc] u fun e w' => e = .returned (.agg (cst BL).cs.toArray) ∧ Below u.heap.size u w' := fun u hu => cost_any (L422.later hu) (by omega) (fun t ht => (hfl.out t ht).1)
      have hSm : ∀ u, Below w22.heap.size w22 u → Calls Tryz.prog 12 #[.slice ma mn mc, .slice na nn nc] u fun e w' => e = .returned (.bool true) ∧ Below u.heap.size u w' := fun u hu => same_any (a := ⟨ma, mn, mc⟩) (b := ⟨na, nn, nc⟩) (im.later hu) (ib.later hu) hOl
      have hAy : ∀ u, Below w22.heap.size w22 u → Calls Tryz.prog 5 #[.pointer (some ⟨h, 0, none⟩)] u fun e w' => ∃ s : Sv, e = .returned (.slice s.a s.n s.c) ∧ InsS w' s (ids (Z2.l.filter fun _ => true)) ∧ Below u.heap.size u w' ∧ InE (fun x => u.heap.size ≤ x ∧ x < w'.heap.size) s := fun u hu => by
        obtain ⟨_, _, _, HR⟩ := Rh.later h22 hu
        exact up2 (rall_any HR) rfl (wf_ids hok2 _)
      have hAx : ∀ u, Below w22.heap.size w22 u → Calls Tryz.prog 13 #[.pointer (some ⟨g, 0, none⟩)] u fun e w' => ∃ s : Sv, e = .returned (.slice s.a s.n s.c) ∧ InsS w' s (ids (Z2.l.filter fun _ => true)) ∧ Below u.heap.size u w' ∧ InE (fun x => u.heap.size ≤ x ∧ x < w'.heap.size) s := fun u hu => by
        obtain ⟨_, _, _, _, HG⟩ := Gh.later g22 hu
        exact up2 (all_any HG) rfl (wf_ids hok2 _)
      have hla := len_ids hok2 (fun _ => true)
      generalize ids (Z2.l.filter fun _ => true) = IA2 at *
      have hEq := eqPc (cst BL) (cst BL)
      rw [Pc.same_self] at hEq
      have hGd := guardPc
      generalize cst BL = P at *
      clear hHeld o21 o22 o2122 n21 n22 g21 s21 s22 hCx hCy hrq i9q r12q r14q L4q h22 g22 L422 B hgh hrh
      go_wp2_with fail
      refine wp_region_held_drew (S := fun u => Below w22.heap.size w22 u) (by kernel_rfl) (Below.refl _ _).drew (fun hHeld => ?_)
      refine wpAnyH_take (i := 0) (oi := { dst := some 128, op := Op.move (Operand.tmp 10), type := 29, pos := _, after := #[], guard := none }) (v := .slice pa BL.length pc) rfl (by kernel_rfl) (by kernel_rfl) (by kernel_rfl) (fun _ _ _ h => h) (Or.inl ⟨by rfl, ?_⟩) hHeld ?_
      · intro u hu
        go_simp
      try simp only [Act.put, List.setIfInBounds_toArray, List.set_cons_zero, List.set_cons_succ]
      refine wpAnyH_take (i := 2) (oi := { dst := some 130, op := Op.load 44 (Operand.tmp 16), type := 44, pos := _, after := #[], guard := none }) (v := .agg P.cs.toArray) rfl (by kernel_rfl) (by kernel_rfl) (by kernel_rfl) (fun _ _ _ h => h)
        (yields_C 44 3 _ srtPc (by rfl) _ (by rfl) g16 (by rfl) _ rfl (fun u hu => c22.later hu)) hHeld ?_
      try simp only [Act.put, List.setIfInBounds_toArray, List.set_cons_zero, List.set_cons_succ]
      refine wpAnyH_ready (rs := [1]) (by kernel_rfl) (by simp) ?_
      refine (AllReadyH.cons (o := { dst := some 129, op := Op.call { callee := Callee.value (Operand.func 18), args := #[Operand.tmp 128], argTypes := #[29] }, type := 44, pos := _, after := #[{ on := 0, ground := Ground.data }], guard := none }) rfl (fun K hK => ?_) AllReadyH.nil)
      go_simp
      refine (hCo _ hHeld).mono ?_
      rintro e w23 ⟨rfl, b23⟩
      try go_wp2_with fail
      refine hK.out _ _ (bnext hHeld b23 (Nat.le_refl _)) (fun hHeld => ?_)
      clear hK K
      try simp only [Act.put, List.setIfInBounds_toArray, List.set_cons_zero, List.set_cons_succ]
      refine wpAnyH_take (i := 3) (oi := { dst := some 131, op := Op.binOp BinOp.eql 44 (Operand.tmp 129) (Operand.tmp 130) 44, type := 4, pos := _, after := #[{ on := 1, ground := Ground.data }, { on := 2, ground := Ground.data }], guard := none }) (v := .bool true) rfl (by kernel_rfl) (by kernel_rfl) (by kernel_rfl) (fun _ _ _ h => h) (Or.inl ⟨by rfl, ?_⟩) hHeld ?_
      · intro u hu
        go_simp
      try simp only [Act.put, List.setIfInBounds_toArray, List.set_cons_zero, List.set_cons_succ]
      refine wpAnyH_take (i := 4) (oi := { dst := some 132, op := Op.move (Operand.tmp 131), type := 4, pos := _, after := #[{ on := 3, ground := Ground.data }, { on := 1, ground := Ground.chain }], guard := none }) (v := .bool true) rfl (by kernel_rfl) (by kernel_rfl) (by kernel_rfl) (fun _ _ _ h => h) (Or.inl ⟨by rfl, ?_⟩) hHeld ?_
      · intro u hu
        go_simp
      try simp only [Act.put, List.setIfInBounds_toArray, List.set_cons_zero, List.set_cons_succ]
      refine wpAnyH_take (i := 5) (oi := { dst := some 133, op := Op.move (Operand.tmp 18), type := 23, pos := _, after := #[{ on := 4, ground := Ground.guard }], guard := some (4, true) }) (v := .slice ma mn mc) rfl (by kernel_rfl) (by kernel_rfl) (by kernel_rfl) (fun _ _ _ h => h) (Or.inl ⟨by rfl, ?_⟩) hHeld ?_
      · intro u hu
        go_simp
      try simp only [Act.put, List.setIfInBounds_toArray, List.set_cons_zero, List.set_cons_succ]
      refine wpAnyH_take (i := 6) (oi := { dst := some 134, op := Op.move (Operand.tmp 19), type := 23, pos := _, after := #[{ on := 4, ground := Ground.guard }], guard := some (4, true) }) (v := .slice na nn nc) rfl (by kernel_rfl) (by kernel_rfl) (by kernel_rfl) (fun _ _ _ h => h) (Or.inl ⟨by rfl, ?_⟩) hHeld ?_
      · intro u hu
        go_simp
      try simp only [Act.put, List.setIfInBounds_toArray, List.set_cons_zero, List.set_cons_succ]
      refine wpAnyH_ready (rs := [7]) (by kernel_rfl) (by simp) ?_
      refine (AllReadyH.cons (o := { dst := some 135, op := Op.call { callee := Callee.value (Operand.func 12), args := #[Operand.tmp 133, Operand.tmp 134], argTypes := #[23, 23] }, type := 4, pos := _, after := #[{ on := 5, ground := Ground.data }, { on := 6, ground := Ground.data }, { on := 4, ground := Ground.chain }, { on := 4, ground := Ground.guard }], guard := some (4, true) }) rfl (fun K hK => ?_) AllReadyH.nil)
      go_simp
      refine (hSm _ hHeld).mono ?_
      rintro e w24 ⟨rfl, b24⟩
      try go_wp2_with fail
      refine hK.out _ _ (bnext hHeld b24 (Nat.le_refl _)) (fun hHeld => ?_)
      clear hK K
      try simp only [Act.put, List.setIfInBounds_toArray, List.set_cons_zero, List.set_cons_succ]
      refine wpAnyH_take (i := 8) (oi := { dst := some 136, op := Op.pick (Operand.tmp 132) (Operand.tmp 135) (Operand.const (Value.bool false)), type := 4, pos := _, after := #[{ on := 4, ground := Ground.data }, { on := 7, ground := Ground.data }], guard := none }) (v := .bool true) rfl (by kernel_rfl) (by kernel_rfl) (by kernel_rfl) (fun _ _ _ h => h) (Or.inl ⟨by rfl, ?_⟩) hHeld ?_
      · intro u hu
        go_simp
      try simp only [Act.put, List.setIfInBounds_toArray, List.set_cons_zero, List.set_cons_succ]
      refine wpAnyH_take (i := 9) (oi := { dst := some 137, op := Op.move (Operand.tmp 136), type := 4, pos := _, after := #[{ on := 8, ground := Ground.data }, { on := 7, ground := Ground.chain }], guard := none }) (v := .bool true) rfl (by kernel_rfl) (by kernel_rfl) (by kernel_rfl) (fun _ _ _ h => h) (Or.inl ⟨by rfl, ?_⟩) hHeld ?_
      · intro u hu
        go_simp
      try simp only [Act.put, List.setIfInBounds_toArray, List.set_cons_zero, List.set_cons_succ]
      refine wpAnyH_take (i := 10) (oi := { dst := some 138, op := Op.move (Operand.tmp 7), type := 24, pos := _, after := #[{ on := 9, ground := Ground.guard }], guard := some (9, true) }) (v := .pointer (some ⟨g, 0, none⟩)) rfl (by kernel_rfl) (by kernel_rfl) (by kernel_rfl) (fun _ _ _ h => h) (Or.inl ⟨by rfl, ?_⟩) hHeld ?_
      · intro u hu
        go_simp
      try simp only [Act.put, List.setIfInBounds_toArray, List.set_cons_zero, List.set_cons_succ]
      refine wpAnyH_take (i := 12) (oi := { dst := some 140, op := Op.move (Operand.tmp 8), type := 25, pos := _, after := #[{ on := 9, ground := Ground.guard }], guard := some (9, true) }) (v := .pointer (some ⟨h, 0, none⟩)) rfl (by kernel_rfl) (by kernel_rfl) (by kernel_rfl) (fun _ _ _ h => h) (Or.inl ⟨by rfl, ?_⟩) hHeld ?_
      · intro u hu
        go_simp
      try simp only [Act.put, List.setIfInBounds_toArray, List.set_cons_zero, List.set_cons_succ]
      refine wpAnyH_ready (rs := [11]) (by kernel_rfl) (by simp) ?_
      refine (AllReadyH.cons (o := { dst := some 139, op := Op.call { callee := Callee.value (Operand.func 13), args := #[Operand.tmp 138], argTypes := #[24] }, type := 23, pos := _, after := #[{ on := 10, ground := Ground.data }, { on := 9, ground := Ground.chain }, { on := 9, ground := Ground.guard }], guard := some (9, true) }) rfl (fun K hK => ?_) AllReadyH.nil)
      go_simp
      refine (hAx _ hHeld).mono ?_
      rintro e w25 ⟨s25, rfl, i25, b25, -⟩
      try go_wp2_with fail
      refine hK.out _ _ (bnext hHeld b25 (Nat.le_refl _)) (fun hHeld => ?_)
      clear hK K
      try simp only [Act.put, List.setIfInBounds_toArray, List.set_cons_zero, List.set_cons_succ]
      refine wpAnyH_ready (rs := [13]) (by kernel_rfl) (by simp) ?_
      refine (AllReadyH.cons (o := { dst := some 141, op := Op.call { callee := Callee.value (Operand.func 5), args := #[Operand.tmp 140], argTypes := #[25] }, type := 23, pos := _, after := #[{ on := 12, ground := Ground.data }, { on := 11, ground := Ground.chain }, { on := 9, ground := Ground.guard }], guard := some (9, true) }) rfl (fun K hK => ?_) AllReadyH.nil)
      go_simp
      refine (hAy _ hHeld).mono ?_
      rintro e w26 ⟨s26, rfl, i26, b26, -⟩
      try go_wp2_with fail
      refine hK.out _ _ (bnext hHeld b26 (Nat.le_refl _)) (fun hHeld => ?_)
      clear hK K
      try simp only [Act.put, List.setIfInBounds_toArray, List.set_cons_zero, List.set_cons_succ]
      refine wpAnyH_ready (rs := [14]) (by kernel_rfl) (by simp) ?_
      refine (AllReadyH.cons (o := { dst := some 142, op := Op.call { callee := Callee.value (Operand.func 12), args := #[Operand.tmp 139, Operand.tmp 141], argTypes := #[23, 23] }, type := 4, pos := _, after := #[{ on := 11, ground := Ground.data }, { on := 13, ground := Ground.data }, { on := 13, ground := Ground.chain }, { on := 9, ground := Ground.guard }], guard := some (9, true) }) rfl (fun K hK => ?_) AllReadyH.nil)
      go_simp
      refine (same_any (i25.later b26) i26 hla).mono ?_
      rintro e w27 ⟨rfl, b27⟩
      try go_wp2_with fail
      refine hK.out _ _ (bnext hHeld b27 (Nat.le_refl _)) (fun hHeld => ?_)
      clear hK K
      try simp only [Act.put, List.setIfInBounds_toArray, List.set_cons_zero, List.set_cons_succ]
      refine wpAnyH_take (i := 15) (oi := { dst := some 143, op := Op.pick (Operand.tmp 137) (Operand.tmp 142) (Operand.const (Value.bool false)), type := 4, pos := _, after := #[{ on := 9, ground := Ground.data }, { on := 14, ground := Ground.data }], guard := none }) (v := .bool true) rfl (by kernel_rfl) (by kernel_rfl) (by kernel_rfl) (fun _ _ _ h => h) (Or.inl ⟨by rfl, ?_⟩) hHeld ?_
      · intro u hu
        go_simp
      try simp only [Act.put, List.setIfInBounds_toArray, List.set_cons_zero, List.set_cons_succ]
      refine wpAnyH_take (i := 16) (oi := { dst := some 144, op := Op.move (Operand.tmp 143), type := 4, pos := _, after := #[{ on := 15, ground := Ground.data }, { on := 14, ground := Ground.chain }], guard := none }) (v := .bool true) rfl (by kernel_rfl) (by kernel_rfl) (by kernel_rfl) (fun _ _ _ h => h) (Or.inl ⟨by rfl, ?_⟩) hHeld ?_
      · intro u hu
        go_simp
      try simp only [Act.put, List.setIfInBounds_toArray, List.set_cons_zero, List.set_cons_succ]
      refine wpAnyH_ready (rs := [17]) (by kernel_rfl) (by simp) ?_
      refine (AllReadyH.cons (o := { dst := some 145, op := Op.call { callee := Callee.value (Operand.func 19), args := #[], argTypes := #[] }, type := 4, pos := _, after := #[{ on := 16, ground := Ground.chain }, { on := 16, ground := Ground.guard }], guard := some (16, true) }) rfl (fun K hK => ?_) AllReadyH.nil)
      go_simp
      refine (works16_any _).mono ?_
      rintro e w28 ⟨rfl, b28⟩
      try go_wp2_with fail
      refine hK.out _ _ (bnext hHeld b28 (Nat.le_refl _)) (fun hHeld => ?_)
      clear hK K
      try simp only [Act.put, List.setIfInBounds_toArray, List.set_cons_zero, List.set_cons_succ]
      refine wpAnyH_take (i := 18) (oi := { dst := some 146, op := Op.pick (Operand.tmp 144) (Operand.tmp 145) (Operand.const (Value.bool false)), type := 4, pos := _, after := #[{ on := 16, ground := Ground.data }, { on := 17, ground := Ground.data }], guard := none }) (v := .bool true) rfl (by kernel_rfl) (by kernel_rfl) (by kernel_rfl) (fun _ _ _ h => h) (Or.inl ⟨by rfl, ?_⟩) hHeld ?_
      · intro u hu
        go_simp
      try simp only [Act.put, List.setIfInBounds_toArray, List.set_cons_zero, List.set_cons_succ]
      refine wpAnyH_take (i := 19) (oi := { dst := some 6, op := Op.assign (Operand.tmp 146), type := 4, pos := _, after := #[{ on := 18, ground := Ground.data }, { on := 17, ground := Ground.chain }, { on := 0, ground := Ground.phase }, { on := 1, ground := Ground.phase }, { on := 2, ground := Ground.phase }, { on := 3, ground := Ground.phase }, { on := 4, ground := Ground.phase }, { on := 5, ground := Ground.phase }, { on := 6, ground := Ground.phase }, { on := 7, ground := Ground.phase }, { on := 8, ground := Ground.phase }, { on := 9, ground := Ground.phase }, { on := 10, ground := Ground.phase }, { on := 11, ground := Ground.phase }, { on := 12, ground := Ground.phase }, { on := 13, ground := Ground.phase }, { on := 14, ground := Ground.phase }, { on := 15, ground := Ground.phase }, { on := 16, ground := Ground.phase }, { on := 17, ground := Ground.phase }, { on := 18, ground := Ground.phase }], guard := none }) (v := .bool true) rfl (by kernel_rfl) (by kernel_rfl) (by kernel_rfl) (fun _ _ _ h => h) (Or.inl ⟨by rfl, ?_⟩) hHeld ?_
      · intro u hu
        go_simp
      try simp only [Act.put, List.setIfInBounds_toArray, List.set_cons_zero, List.set_cons_succ]
      refine wpAnyH_done (by kernel_rfl) ?_ _
      go_wp2_with fail
      go_returns
      exact ⟨rfl, bnext Bw22 hHeld (Nat.le_refl _)⟩

theorem own : ownKnob Tryz.prog.godebug = none := by kernel_rfl
theorem laidOut : laidOutB Tryz.prog = true := by kernel_rfl
set_option maxRecDepth 100000 in
theorem lifted (os : Os) (started : os.Started) (H : Type) (enc : TypeId × Value → H) :
    ReturnsInHanded {} Tryz.checked os 3 .any (Rows.planTellsSpec.pre6 enc Tryz.prog Tryz.f3 Rows.planTellsRow.domain false) (Rows.planTellsSpec.post enc Tryz.prog Tryz.f3 false true false false) := by
  refine returnsInHanded_of_change (C := Tryz.checked) own started (by kernel_rfl) Tryz.func3
    (ChangeSpec.witness6 (enc := enc) (C := Tryz.checked) false ⟨#[], #[.slice none 0 0, .slice none 0 0, .slice none 0 0], []⟩ 8 (by kernel_rfl) (by kernel_rfl) (by kernel_rfl) (by kernel_rfl)) ?_
  intro W base args ds gs before hval0 hW hcnd _
  have hval : ∀ (j : Nat) t v, Tryz.f3.params[j]? = some t → args[j]? = some v → Value.okWide Tryz.prog W .any base t v := hval0
  have hW' := hW
  obtain ⟨p, q, hA0, hV, rfl, hfz, hnd⟩ := hW
  have hA : DataW.TrodAll enc Tryz.prog W 0 (fun _ => true) true Tryz.f3.params.toList args.toList ds p := hA0
  rw [Tryz.params3] at hA hval
  obtain ⟨v0, vs0, d0, ds0, p0, q0, hargs, rfl, rfl, h0, r0⟩ := trodAll_cons hA
  obtain ⟨v1, vs1, d1, ds1, p1, q1, rfl, rfl, rfl, h1, r1⟩ := trodAll_cons r0
  obtain ⟨v2, vs2, d2, ds2, p2, q2, rfl, rfl, rfl, h2, r2⟩ := trodAll_cons r1
  obtain ⟨rfl, rfl, rfl⟩ := trodAll_nil r2
  obtain rfl : args = #[v0, v1, v2] := by cases args; simp_all
  obtain ⟨rfl, rfl⟩ := trodVars_none hV
  obtain ⟨a0, len0, cap0, rfl⟩ := okWide_slice Tryz.underlying22 (hval 0 22 v0 rfl rfl)
  have k0 := h0
  have lt0 : ∀ x ∈ p0, x.block < W.heap.size := by obtain ⟨m, hm⟩ := k0; exact DataW.trod_lt m _ _ _ hm
  obtain ⟨z0, w0⟩ : ∃ zs, Ps W (fun x => x < W.heap.size) ⟨a0, len0, cap0⟩ zs := by
    obtain ⟨fuel, hf⟩ := h0
    obtain ⟨a, n, c, l, hcs, hi⟩ := pts_of_trod hf
    simp [Value.cells] at hcs
    obtain ⟨rfl, rfl, rfl⟩ := hcs
    exact ⟨_, hi⟩
  obtain ⟨a1, len1, cap1, rfl⟩ := okWide_slice Tryz.underlying23 (hval 1 23 v1 rfl rfl)
  have k1 := h1
  have lt1 : ∀ x ∈ p1, x.block < W.heap.size := by obtain ⟨m, hm⟩ := k1; exact DataW.trod_lt m _ _ _ hm
  obtain ⟨z1, w1⟩ : ∃ zs : List Int, InsS W ⟨a1, len1, cap1⟩ zs := by
    obtain ⟨fuel, hf⟩ := h1
    obtain ⟨s, l, hcs, hi⟩ := insS_of_trod hf
    simp [Value.cells] at hcs
    obtain ⟨rfl, rfl, rfl⟩ := hcs
    exact ⟨l, hi⟩
  obtain ⟨a2, len2, cap2, rfl⟩ := okWide_slice Tryz.underlying23 (hval 2 23 v2 rfl rfl)
  have k2 := h2
  have lt2 : ∀ x ∈ p2, x.block < W.heap.size := by obtain ⟨m, hm⟩ := k2; exact DataW.trod_lt m _ _ _ hm
  obtain ⟨z2, w2⟩ : ∃ zs : List Int, InsS W ⟨a2, len2, cap2⟩ zs := by
    obtain ⟨fuel, hf⟩ := h2
    obtain ⟨s, l, hcs, hi⟩ := insS_of_trod hf
    simp [Value.cells] at hcs
    obtain ⟨rfl, rfl, rfl⟩ := hcs
    exact ⟨l, hi⟩
  clear hA0 hval0
  refine (walk a0 len0 cap0 z0 ⟨a1, len1, cap1⟩ z1 ⟨a2, len2, cap2⟩ z2 W w0 w1 w2).mono fun e W' ⟨he, bel⟩ => ?_
  subst he
  exact ⟨_, rfl, _, _, _, [], _, [], hW', trodAll_mk1 (shut_bool Tryz.underlying4 _), (trodAll_cons_mk (Below.trod laidOut (by kernel_rfl) (of_decide_eq_true (by kernel_rfl)) k0 bel lt0) (trodAll_cons_mk (Below.trod laidOut (by kernel_rfl) (of_decide_eq_true (by kernel_rfl)) k1 bel lt1) (trodAll_cons_mk (Below.trod laidOut (by kernel_rfl) (of_decide_eq_true (by kernel_rfl)) k2 bel lt2) trodAll_mk0))), rfl, bel.frame _, fun h => by cases h⟩
theorem over : Rows.planTellsRow.holds Tryz.pinned (OpenSpec.ofChange Rows.planTellsSpec) :=
  OpenClaim.holds_of_wide 3 Tryz.f3 rfl rfl rfl rfl rfl rfl rfl ⟨rfl, rfl, rfl, rfl, rfl⟩ rfl rfl rfl rfl rfl (by kernel_rfl) Tryz.func3 (by kernel_rfl)
    (of_decide_eq_true (by kernel_rfl)) (by unfold Func.isWrapper; first | (rw [if_pos (by decide +kernel)]; kernel_rfl) | (rw [if_neg (by decide +kernel)]; exact ⟨rfl, rfl⟩))
    (fun os started H enc _ => lifted os started H enc)
end Go.Proofs.YtdfifneikmlmoaaGreat.planTells
namespace Go.Proofs.YtdfifneikmlmoaaGreat
/-- The statement. -/
theorem planTells_holds : Rows.PlanTellsSaid := planTells.over
#print axioms planTells_holds
end Go.Proofs.YtdfifneikmlmoaaGreat
