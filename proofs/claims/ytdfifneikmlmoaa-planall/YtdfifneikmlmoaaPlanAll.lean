/-
  The statement PlanAll, proved: for all patches, writes and numbers the law returns true; no condition.
-/
import Derived.Test.YtdfifneikmlmoaaRgJ
import Derived.Test.YtdfifneikmlmoaaHsA
namespace Go.Proofs.Ytdfifneikmlmoaa.planAll
open Go.ChangeShapes Go.WideShapes Go.ChangeAt Go.RowKit
set_option linter.unusedVariables false
set_option linter.unusedSimpArgs false

/-- Between two batches. -/
structure PaI (w w5 wr : World) (g : Nat) (Z : GZ) (is : List Int) (E F : Nat → Prop) (i : Nat) : Prop where
  gh : Gh wr g (Z.aft is i) E F
  st : Stp F w5 wr
  b : Below w.heap.size w wr
set_option maxRecDepth 100000 in
set_option maxHeartbeats 8000000 in
theorem walk (a0 : Option Addr) (n0 c0 : Nat) (L : List Pe) (s1 : Sv) (wl : List Int) (s2 : Sv) (l2 : List Int) (w : World) (H : Ps w (fun x => x < w.heap.size) ⟨a0, n0, c0⟩ L) (h1 : InsS w s1 wl) (h2 : InsS w s2 l2) :
    Calls Try.prog 3 #[.slice a0 n0 c0, .slice s1.a s1.n s1.c, .slice s2.a s2.n s2.c] w fun e w' => e = .returned (.bool true) ∧ Below w.heap.size w w' := by
  have ld : s2.n ≤ maxLen := Nat.le_trans h2.i.le h2.i.cap
  have le1 := h2.i.le
  have em1 : (min (s2.n : Int) 8) = ((min s2.n 8 : Nat) : Int) := by omega
  have hl8 : (l2.take 8).length ≤ 1000 := by rw [List.length_take]; omega
  have hcut := h2.cut 8
  have hl8' : Hid ((l2.take 8).length ≤ 100000) := by show _ ≤ _; omega
  generalize l2.take 8 = is at *
  clear h2
  have hM := fun (u : World) (hu : Below w.heap.size w u) => made_any (H.later hu) (h1.later hu)
  have t1 : Hid True := trivial
  have t2 : Hid True := trivial
  have t3 : Hid True := trivial
  have t4 : Hid True := trivial
  go_enter Try.func3, Try.ntmps3
  go_wp2_with (first
    | (go_at_call 6; refine (works16_any _).mono ?_; rintro e w0 ⟨rfl, B0⟩
       have hM0 := hM _ B0)
    | (go_at_call 7; refine hM0.mono ?_; rintro e w1 ⟨g, h, rfl, ⟨Z, ⟨E, F, R, B⟩, hWz⟩, b1⟩
       have B1 := bnext B0 b1 (Nat.le_refl _)
       clear hM hM0 H h1)
    | (go_at_call 9; clear t1; refine (gints_any (hcut.later B1) hl8'.out).mono ?_; rintro e w2 ⟨s3, rfl, i3, -, b2⟩
       have B2 := bnext B1 b2 (Nat.le_refl _)
       have Bx2 := B.later b2
       obtain ⟨mp, mw, f, fw, H2⟩ := Bx2.gh
       have hfew : Z.l.length ≤ 100 := by have := B.few; omega
       have hNd := needed_both H2 i3 hl8 hfew B.n6)
    | (go_at_call 8; clear t2; refine hNd.mono ?_; rintro e w3 ⟨v3, rfl, o3, n3, b3⟩; clear hNd
       have B3 := bnext B2 b3 (Nat.le_refl _)
       obtain ⟨⟨ma, mn, mc⟩, e4, e4', i4, j4⟩ := o3.ins (nd_wfi H2.ok _) n3
       have e4v : v3 = .slice ma mn mc := e4
       clear e4
       subst e4v
       have e4n : Hid (mn = (ids (nd is Z.l)).length) := e4'
       clear e4')
    | (go_at_call 9; clear t3; refine (gints_any (hcut.later B3) hl8'.out).mono ?_; rintro e w4 ⟨s5, rfl, i5, -, b4⟩
       have B4 := bnext B3 b4 (Nat.le_refl _)
       obtain ⟨n, hn, hnle⟩ := ends H2.ok is
       have hn100 : n ≤ 100 := by have := nd_len is Z.l; omega
       have hBa := batches_any ((H2.later b3).later b4) i5 hl8 hfew B.n6 hn hn100)
    | (go_at_call 10; refine hBa.mono ?_; rintro e w5 ⟨v5, rfl, L5, b5⟩; clear hBa
       have B5 := bnext B4 b5 (Nat.le_refl _)
       obtain ⟨la, lc, hlv⟩ := L5.shape
       rw [btL_len] at hlv
       subst hlv
       have hgt : ¬ (mn : Int) < (n : Int) := by rw [e4n.out]; unfold ids; rw [List.length_map]; omega))
  have hz1 : w1.heap.size ≤ w4.heap.size := by have := b2.size; have := b3.size; have := b4.size; omega
  have hFlt : ∀ x, F x → w.heap.size ≤ x ∧ x < w1.heap.size := fun x hx => ⟨by have := (B.hF x hx).1; have := B0.size; omega, B.gh.lt.1 x hx⟩
  have hElt : ∀ x, E x → x < w1.heap.size := B.gh.lt.2.1
  have B15 : Below w1.heap.size w1 w5 := bnext (bnext (bnext b2 b3 (Nat.le_refl _)) b4 (Nat.le_refl _)) b5 (Nat.le_refl _)
  have B35 : Below w3.heap.size w3 w5 := bnext b4 b5 (Nat.le_refl _)
  have i45 := i4.later B35
  have hok := H2.ok
  have hn6 := B.n6
  have st : PaI w w5 w5 g Z is E F 0 := ⟨Gh.later B.gh B15, Stp.refl _ _, B5⟩
  have hgone : Hid (∀ x ∈ ids (nd is Z.l), has (Z.aft is n).l x = false) := all_gone hok hWz hn
  have hz2 : w1.heap.size ≤ w2.heap.size := b2.size
  have hz3 : w3.heap.size ≤ w5.heap.size := B35.size
  have hz15 : w1.heap.size ≤ w5.heap.size := B15.size
  have hz23 : w2.heap.size ≤ w3.heap.size := b3.size
  have hnw := nd_wfi hok is
  have hndl : Hid ((ids (nd is Z.l)).length ≤ 100) := by show _ ≤ _; unfold ids; rw [List.length_map]; have := nd_len is Z.l; omega
  clear i3 i5 H2 B B1 B2 B3 B4 b1 b2 b3 b4 b5 B15 hWz hgt hnle B35 o3 n3 Bx2 i4
  go_loopw [11] (fun v wr => ∃ i : Nat, i ≤ n ∧ v = .int .i64 (i : Int) ∧ PaI w w5 wr g Z is E F i) (fun v _ => n - (intOf v).toNat)
  case atStart => exact ⟨0, Nat.zero_le _, rfl, st⟩
  case round =>
    clear st
    rename World => wq
    obtain ⟨i, hi, rfl, I⟩ := hrel
    have Bq := L5.step I.st (fun x hx => .inl (by have := (hFlt x hx).2; omega))
    obtain ⟨Lb, eL, Ib⟩ := Bq
    have hLb : Lb.length = n := by have := congrArg List.length eL; rw [List.length_map, btL_len] at this; exact this
    have hoki := aft_ok hok is i
    have hgh := I.gh
    by_cases hlt : i < n
    · have a9 : (i : Int) < (n : Int) := by omega
      obtain ⟨lb, hla, hrg⟩ := Ib.el' i (by omega)
      subst hla
      have hti : (Lb[i]'(by omega)).l = bsS is (Z.aft is i).l := by
        have h3 : (Lb.map Be.bt)[i]? = some (Lb[i]'(by omega)).bt := by rw [List.getElem?_map, List.getElem?_eq_getElem (by omega)]; rfl
        rw [eL] at h3
        unfold btL at h3
        rw [List.getElem?_map, List.getElem?_range hlt] at h3
        injection h3 with h3
        have := congrArg Bt.s h3
        exact this.symm
      obtain ⟨ho, hnew, hwf⟩ := Ib.el _ (List.getElem_mem (show i < Lb.length by omega))
      obtain ⟨s6, e6, -, i6, -⟩ := ho.ins hwf hnew
      have c6 : wq.cell? ⟨lb, i * 2, none⟩ = some (.slice s6.a s6.n s6.c) := by
        have := hrg 0 _ rfl
        rw [Nat.add_zero] at this
        rw [this]; exact congrArg some e6
      rw [hti] at i6
      have hSl : (bsS is (Z.aft is i).l).length ≤ 400 := by
        have h3 := aft_len hok is i
        have h4 := bsS_few hoki is
        omega
      have hSl' : Hid ((bsS is (Z.aft is i).l).length ≤ 100000) := by show _ ≤ _; omega
      have hnl : ∀ p ∈ (Z.aft is i).l, p.needs.length ≤ 100000 := fun p hp => by have := hn6 p (aft_sub hok is i hp); omega
      have hZ1 : Hid (Z.aft is (i + 1) = (Z.aft is i).car (bsS is (Z.aft is i).l)) := by show _ = _; rfl
      have hAl : Calls Try.prog 11 #[.pointer (some ⟨g, 0, none⟩)] wq fun e w' => ∃ v, e = .returned v ∧ OwV w' v (ids (thP (Z.aft is i).l fun _ => true)) ∧ New wq.heap.size v ∧ Below wq.heap.size wq w' := by
        obtain ⟨_, _, _, _, H3⟩ := hgh
        exact all_any H3
      have e0 : thP (Z.aft is i).l (fun _ => true) = (Z.aft is i).l := List.filter_eq_self.2 (fun _ _ => rfl)
      rw [e0] at hAl
      have hwa : ∀ x ∈ ids (Z.aft is i).l, wfi x := fun x hx => by
        obtain ⟨p, h3, rfl⟩ := ids_mem.1 hx
        exact (hoki.wfp h3).i
      have hhas : Hid (∀ x ∈ (Z.aft is i).crO (bsS is (Z.aft is i).l), hsI (ids (Z.aft is i).l) x = true) := fun x hx => by
        have := crO_has _ _ hoki.srt x hx
        rw [has_ids, List.contains_iff_mem] at this
        exact (hsI_iff _ _).2 this
      have hwo : ∀ x ∈ (Z.aft is i).crO (bsS is (Z.aft is i).l), wfi x := fun x hx => by
        obtain ⟨p, h3, h4, _⟩ := crO_facts _ _ hoki.srt x hx
        rw [← h4]; exact (hoki.wfp h3).i
      have hOl : ((Z.aft is i).crO (bsS is (Z.aft is i).l)).length ≤ 1000000 := crO_len hoki _ hSl
      have hOl' : Hid (((Z.aft is i).crO (bsS is (Z.aft is i).l)).length ≤ 1000000) := hOl
      have hIst := I.st
      have hIb := I.b
      have hzq := I.st.size
      clear hti ho hnew hwf e6 hrg eL Ib hoki e0 I hOl
      generalize bsS is (Z.aft is i).l = S at *
      generalize hZi : Z.aft is i = Zi at *
      clear hZi
      generalize hZn : Z.aft is (i + 1) = Zn at *
      have hZn' : Hid (Z.aft is (i + 1) = Zn) := hZn
      clear hZn
      have t5 : Hid True := trivial
      go_wp2_with (first
        | (go_at_call 11; refine hAl.mono ?_; rintro e w6 ⟨v6, rfl, o6, n6, b6⟩; clear hAl
           obtain ⟨s7, e7, -, i7, j7⟩ := o6.ins hwa n6
           subst e7
           have c66 := (Stp.of_below b6 (fun _ => False)).cell c6 id)
        | (go_at_call 9; refine (gints_any (i6.later b6) hSl'.out).mono ?_; rintro e w7 ⟨s8, rfl, i8, j8, b7⟩
           have b67 := bnext b6 b7 (Nat.le_refl _)
           have hCa := carry_any (Gh.later hgh b67) hnl i8 j8 (fun x hx hf => by have := (hFlt x hf).2; have := hx.1; have := b6.size; omega) hSl false)
        | (clear t5; refine at_bldB1 (by rfl) _ (by rfl) s8 (by rfl) ?_)
        | (go_at_call 12; refine hCa.mono ?_; rintro e w8 ⟨v8, rfl, o8, n8, g8, s8'⟩; clear hCa
           obtain ⟨⟨na, nn, nc⟩, e9, e9', i9, -⟩ := o8.ins hwo n8
           have e9v : v8 = .slice na nn nc := e9
           clear e9
           subst e9v))
      have i78 := (i7.later b7).step s8' j7 (fun x hx hf => by have := (hFlt x hf).2; have := hx.1; omega)
      have J : PaI w w5 w8 g Z is E F (i + 1) := by
        refine ⟨by rw [hZn'.out, hZ1.out]; exact g8, (hIst.trans (Stp.of_below b67 F)).trans s8', (bnext hIb b67 (Nat.le_refl _)).trans (s8'.below (bnext hIb b67 (Nat.le_refl _)).size (fun x hx => (hFlt x hx).1))⟩
      generalize Zi.crO S = O at *
      try simp only at e9'
      subst e9'
      clear c6 c66 i6 i7 i8 b6 b7 b67 o6 o8 n6 n8 g8 s8' hgh hIst hIb
      go_loopw [14] (fun v wr => ∃ k : Nat, k ≤ O.length ∧ v = .int .i64 (k : Int) ∧ wr = w8) (fun v _ => O.length - (intOf v).toNat)
      case atStart => exact ⟨0, Nat.zero_le _, rfl, rfl⟩
      case round =>
        obtain ⟨k, hk, rfl, rfl⟩ := hrel
        by_cases hkl : k < O.length
        · have d9 : (k : Int) < (O.length : Int) := by omega
          obtain ⟨ob, oo, e, hcs⟩ := i9.i.cell (by simpa using (by omega : 0 < O.length))
          have ck := hcs k (by simpa using hkl)
          simp only at e
          subst e
          have hy := hhas.out (O.getD k 0) (by rw [List.getD_eq_getElem?_getD, List.getElem?_eq_getElem hkl]; exact List.getElem_mem _)
          have hH := bhas_any i78 (O.getD k 0)
          rw [hy] at hH
          generalize O.getD k 0 = y at *
          have hkb : (k : Int) ≤ 1000000 := by have := hOl'.out; omega
          clear hcs hy
          go_wp2_with (first
            | (go_at_call 13; refine hH.mono ?_; rintro e w9 ⟨rfl, rfl⟩; clear hH))
          go_roundw
          case rel => exact ⟨k + 1, by omega, by go_num, by first | trivial | rfl⟩
          case measure => simp [intOf]; omega
        · have d9 : ¬ (k : Int) < (O.length : Int) := by omega
          go_wp2_with fail
          go_roundw
          case rel => exact ⟨i + 1, by omega, by go_num, J⟩
          case measure => simp [intOf]; omega
    · have hin : i = n := by omega
      subst hin
      have a9 : ¬ (i : Int) < (i : Int) := by omega
      have hwq := I.b
      have hgh0 := I.gh
      have hnz := hn.1
      have i46 := i45.step I.st j4 (fun x hx hf => by have := (hFlt x hf).2; have := hx.1; omega)
      have hcq := hcut.later I.b
      have hzl2 : (Z.aft is i).l.length ≤ 100 := Nat.le_trans (aft_len hok is i) hfew
      have hn62 : ∀ p ∈ (Z.aft is i).l, p.needs.length ≤ 6 := fun p hp => hn6 p (aft_sub hok is i hp)
      clear I eL Ib hLb L5 i45 hcut hn hi
      generalize Z.aft is i = Zi at *
      generalize ids (nd is Z.l) = ND at *
      have e4m : mn = ND.length := e4n.out
      subst e4m
      clear e4n
      go_wp2_with fail
      go_loopw [15] (fun v wr => ∃ k : Nat, k ≤ ND.length ∧ v = .int .i64 (k : Int) ∧ Below wq.heap.size wq wr) (fun v _ => ND.length - (intOf v).toNat)
      case atStart => exact ⟨0, Nat.zero_le _, rfl, Below.refl _ _⟩
      case round =>
        rename World => wx
        obtain ⟨k, hk, rfl, hbx⟩ := hrel
        have ghx := Gh.later hgh0 hbx
        obtain ⟨mp3, mw3, f3, fw3, H3⟩ := ghx
        by_cases hkl : k < ND.length
        · have d9 : (k : Int) < (ND.length : Int) := by omega
          have i4x := i46.later hbx
          obtain ⟨ob, oo, e, hcs⟩ := i4x.i.cell (by simpa using (by omega : 0 < ND.length))
          have ck := hcs k (by simpa using hkl)
          simp only at e
          subst e
          have hmem : ND.getD k 0 ∈ ND := by rw [List.getD_eq_getElem?_getD, List.getElem?_eq_getElem hkl]; exact List.getElem_mem _
          have hge : gE Zi.l (ND.getD k 0) = 5 := by unfold gE; rw [hgone.out _ hmem]; rfl
          have hG := get_any H3 (ND.getD k 0) (hnw _ hmem) (fun p hp => by have := hn62 p hp; omega)
          rw [hge] at hG
          have hkb : (k : Int) ≤ 100 := by have := hndl.out; omega
          clear hcs hmem hge
          generalize gt Zi.l (ND.getD k 0) = p at *
          generalize ND.getD k 0 = y at *
          have t5 : Hid True := trivial
          have t6 : Hid True := trivial
          go_wp2_with (first
            | (go_at_call 14; refine hG.mono ?_; rintro e w6 ⟨d, n', rfl, m6, b6⟩; clear hG)
            | (clear t5; refine at_newP (by rfl) (by rfl) ?_; intro g7 w7 a7 a7' r7 b7)
            | (clear t6; refine at_putP (by rfl) _ _ (by rfl) g7 (by rfl) p d n' (by rfl) _ r7 rfl ?_; intro w8 r8 s8))
          have B8 : Below wq.heap.size wq w8 := ((Stp.of_below (bnext (bnext hbx b6 (Nat.le_refl _)) b7 (Nat.le_refl _)) (fun _ => False)).next s8 (fun x e => .inr (by have := (bnext hbx b6 (Nat.le_refl _)).size; omega))).below (Nat.le_refl _) (fun x e => e.elim)
          go_roundw
          case rel => exact ⟨k + 1, by omega, by go_num, B8⟩
          case measure => simp [intOf]; omega
        · have d9 : ¬ (k : Int) < (ND.length : Int) := by omega
          clear H3
          go_wp2_with (first
            | (go_at_call 9; refine (gints_any (hcq.later hbx) hl8'.out).mono ?_; rintro e w6 ⟨s8, rfl, i8, -, b6⟩
               have b06 := bnext hbx b6 (Nat.le_refl _)
               have gh6 := Gh.later hgh0 b06
               obtain ⟨mp3, mw3, f3, fw3, H3⟩ := gh6
               have hNd := needed_both H3 i8 hl8 hzl2 hn62
               rw [hnz] at hNd)
            | (go_at_call 8; refine hNd.mono ?_; rintro e w7 ⟨v7, rfl, o7, n7, b7⟩; clear hNd
               obtain ⟨xa, xc, rfl⟩ := OwV.zero o7))
          go_returns
          exact ⟨rfl, bnext (bnext hwq b06 (Nat.le_refl _)) b7 (Nat.le_refl _)⟩

theorem own : ownKnob Try.prog.godebug = none := by kernel_rfl
theorem laidOut : laidOutB Try.prog = true := by kernel_rfl
set_option maxRecDepth 100000 in
theorem lifted (os : Os) (started : os.Started) (H : Type) (enc : TypeId × Value → H) :
    ReturnsInHanded {} Try.checked os 3 .any (Rows.planAllSpec.pre6 enc Try.prog Try.f3 Rows.planAllRow.domain false) (Rows.planAllSpec.post enc Try.prog Try.f3 false true false false) := by
  refine returnsInHanded_of_change (C := Try.checked) own started (by kernel_rfl) Try.func3
    (ChangeSpec.witness6 (enc := enc) (C := Try.checked) false ⟨#[], #[.slice none 0 0, .slice none 0 0, .slice none 0 0], []⟩ 8 (by kernel_rfl) (by kernel_rfl) (by kernel_rfl) (by kernel_rfl)) ?_
  intro W base args ds gs before hval0 hW hcnd _
  have hval : ∀ (j : Nat) t v, Try.f3.params[j]? = some t → args[j]? = some v → Value.okWide Try.prog W .any base t v := hval0
  have hW' := hW
  obtain ⟨p, q, hA0, hV, rfl, hfz, hnd⟩ := hW
  have hA : DataW.TrodAll enc Try.prog W 0 (fun _ => true) true Try.f3.params.toList args.toList ds p := hA0
  rw [Try.params3] at hA hval
  obtain ⟨v0, vs0, d0, ds0, p0, q0, hargs, rfl, rfl, h0, r0⟩ := trodAll_cons hA
  obtain ⟨v1, vs1, d1, ds1, p1, q1, rfl, rfl, rfl, h1, r1⟩ := trodAll_cons r0
  obtain ⟨v2, vs2, d2, ds2, p2, q2, rfl, rfl, rfl, h2, r2⟩ := trodAll_cons r1
  obtain ⟨rfl, rfl, rfl⟩ := trodAll_nil r2
  obtain rfl : args = #[v0, v1, v2] := by cases args; simp_all
  obtain ⟨rfl, rfl⟩ := trodVars_none hV
  obtain ⟨a0, len0, cap0, rfl⟩ := okWide_slice Try.underlying22 (hval 0 22 v0 rfl rfl)
  have k0 := h0
  have lt0 : ∀ x ∈ p0, x.block < W.heap.size := by obtain ⟨m, hm⟩ := k0; exact DataW.trod_lt m _ _ _ hm
  obtain ⟨z0, w0⟩ : ∃ zs, Ps W (fun x => x < W.heap.size) ⟨a0, len0, cap0⟩ zs := by
    obtain ⟨fuel, hf⟩ := h0
    obtain ⟨a, n, c, l, hcs, hi⟩ := pts_of_trod hf
    simp [Value.cells] at hcs
    obtain ⟨rfl, rfl, rfl⟩ := hcs
    exact ⟨_, hi⟩
  obtain ⟨a1, len1, cap1, rfl⟩ := okWide_slice Try.underlying23 (hval 1 23 v1 rfl rfl)
  have k1 := h1
  have lt1 : ∀ x ∈ p1, x.block < W.heap.size := by obtain ⟨m, hm⟩ := k1; exact DataW.trod_lt m _ _ _ hm
  obtain ⟨z1, w1⟩ : ∃ zs : List Int, InsS W ⟨a1, len1, cap1⟩ zs := by
    obtain ⟨fuel, hf⟩ := h1
    obtain ⟨s, l, hcs, hi⟩ := insS_of_trod hf
    simp [Value.cells] at hcs
    obtain ⟨rfl, rfl, rfl⟩ := hcs
    exact ⟨l, hi⟩
  obtain ⟨a2, len2, cap2, rfl⟩ := okWide_slice Try.underlying23 (hval 2 23 v2 rfl rfl)
  have k2 := h2
  have lt2 : ∀ x ∈ p2, x.block < W.heap.size := by obtain ⟨m, hm⟩ := k2; exact DataW.trod_lt m _ _ _ hm
  obtain ⟨z2, w2⟩ : ∃ zs : List Int, InsS W ⟨a2, len2, cap2⟩ zs := by
    obtain ⟨fuel, hf⟩ := h2
    obtain ⟨s, l, hcs, hi⟩ := insS_of_trod hf
    simp [Value.cells] at hcs
    obtain ⟨rfl, rfl, rfl⟩ := hcs
    exact ⟨l, hi⟩
  clear hA0 hval0
  refine (walk a0 len0 cap0 z0 ⟨a1, len1, cap1⟩ z1 ⟨a2, len2, cap2⟩ z2 W w0 w1 w2).mono fun e W' ⟨he, bel⟩ => ?_
  subst he
  exact ⟨_, rfl, _, _, _, [], _, [], hW', trodAll_mk1 (shut_bool Try.underlying4 _), (trodAll_cons_mk (Below.trod laidOut (by kernel_rfl) (of_decide_eq_true (by kernel_rfl)) k0 bel lt0) (trodAll_cons_mk (Below.trod laidOut (by kernel_rfl) (of_decide_eq_true (by kernel_rfl)) k1 bel lt1) (trodAll_cons_mk (Below.trod laidOut (by kernel_rfl) (of_decide_eq_true (by kernel_rfl)) k2 bel lt2) trodAll_mk0))), rfl, bel.frame _, fun h => by cases h⟩
theorem over : Rows.planAllRow.holds Try.pinned (OpenSpec.ofChange Rows.planAllSpec) :=
  OpenClaim.holds_of_wide 3 Try.f3 rfl rfl rfl rfl rfl rfl rfl ⟨rfl, rfl, rfl, rfl, rfl⟩ rfl rfl rfl rfl rfl (by kernel_rfl) Try.func3 (by kernel_rfl)
    (of_decide_eq_true (by kernel_rfl)) (by unfold Func.isWrapper; first | (rw [if_pos (by decide +kernel)]; kernel_rfl) | (rw [if_neg (by decide +kernel)]; exact ⟨rfl, rfl⟩))
    (fun os started H enc _ => lifted os started H enc)
end Go.Proofs.Ytdfifneikmlmoaa.planAll
namespace Go.Proofs.Ytdfifneikmlmoaa
/-- The statement. -/
theorem planAll_holds : Rows.PlanAllSaid := planAll.over
#print axioms planAll_holds
end Go.Proofs.Ytdfifneikmlmoaa
