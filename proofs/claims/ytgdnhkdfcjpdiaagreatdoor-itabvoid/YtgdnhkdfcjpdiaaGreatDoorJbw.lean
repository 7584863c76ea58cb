/-
  Texts of my own, joined: no statement is proved here.
-/
import Derived.Test.YtgdnhkdfcjpdiaaGreatDoorJbs
import Derived.Test.YtgdnhkdfcjpdiaaGreatDoorJbv
set_option linter.unusedSimpArgs false
set_option linter.unusedVariables false
namespace Go.Proofs.YtgdnhkdfcjpdiaaGreatDoor
open Go.ChangeShapes Go.WideShapes Go.ChangeAt Go.RowKit
set_option maxRecDepth 100000
def VZ.fdP (V : VZ) (n c f : Int) (x : Ino) (l : List Int) : Pt := ⟨0, V.s.sec n, oA (V.s.slt n) f, ints (fB x f), 4, l, n, c, false⟩
def VZ.fdS (V : VZ) (n c f : Int) (x : Ino) (l : List Int) : (Int × Int) × VZ :=
  if V.s.ierr n = 0 then (if isF f then ((V.patN (V.fdP n c f x l), V.patE (V.fdP n c f x l)), V.pat (V.fdP n c f x l)) else ((0, 2), V)) else ((0, V.s.ierr n), V)
theorem bldPi (x y : Int) (s r : Sv) (n c : Int) (w : World) : (Instr.build 112 #[(1, .int .i64 x), (2, .int .i64 y), (3, .slice s.a s.n s.c), (4, .int .i64 4), (5, .slice r.a r.n r.c), (6, .int .i64 n), (7, .int .i64 c)]).run Tryz.prog w = .ok (.agg ((⟨0, x, y, [], 4, [], n, c, false⟩ : Pt).cs s r).toArray) w := by kernel_rfl
theorem yields_bldPi {ops : Array Oper} {o : Oper} {a : Act} {S : World → Prop} (hw : Region.wanted o (yielded ops a.tmps) = true) (x1 x2 x3 x4 x5 x6 x7 : Operand) (ho : o.op = .build 112 #[(1, x1), (2, x2), (3, x3), (4, x4), (5, x5), (6, x6), (7, x7)])
    (i j n c : Int) (s r : Sv) (h1 : a.eval x1 = .int .i64 i) (h2 : a.eval x2 = .int .i64 j) (h3 : a.eval x3 = .slice s.a s.n s.c) (h4 : a.eval x4 = .int .i64 4) (h5 : a.eval x5 = .slice r.a r.n r.c) (h6 : a.eval x6 = .int .i64 n) (h7 : a.eval x7 = .int .i64 c) :
    YieldsIf Tryz.prog ops S o (.agg ((⟨0, i, j, [], 4, [], n, c, false⟩ : Pt).cs s r).toArray) a :=
  Or.inl ⟨hw, fun w hs => by
    have := bldPi i j s r n c w
    simp only [execOp, ho, Sem.run_bind, List.map_toArray, List.map_cons, List.map_nil, h1, h2, h3, h4, h5, h6, h7, this]; rfl⟩
theorem oA_wf (k f : Int) : wfi (oA k f) := by
  by_cases h : isSl k ∧ isF f
  · have e : oA k f = 18 * k + fAt f.toNat := if_pos h
    have := f_le f.toNat (by have := h.2; omega)
    have := h.1
    rw [e]; exact wfi_of (by omega)
  · have e : oA k f = 0 := if_neg h
    rw [e]; exact wfi_of (by omega)
theorem fB_len (x : Ino) (f : Int) : (ints (fB x f)).length ≤ 18 := by
  rw [ints_len]
  by_cases h : isF f
  · have e : fB x f = fPart x f.toNat := if_pos h
    have h1 := f_le f.toNat (by have := h.2; omega)
    have := fPart_len x f.toNat (by have := h.2; omega)
    rw [e]; omega
  · have e : fB x f = [] := if_neg h
    rw [e]; simp
section
variable {u : World} {A : VA} {V : VZ} {T : Nat → Prop} {t k : Nat}
set_option maxHeartbeats 16000000 in
theorem iabout_any (h : Vo u A V T) (ok : VOk t k V) (ht : t ≤ 8990) (hk : k < 2000) (hT : Tb u) (h0 : ¬ T 0) (n c f : Int) (x : Ino) (r : Sv) (l : List Int) (hn : wfi n) (hc : wfi c) (hr : InsS u r l) (Y : Nat → Prop) (hy : InE Y r) (hY : ∀ y, Y y → ¬ T y ∧ y < u.heap.size) (hl : l.length ≤ 6) :
    Calls Tryz.prog 16 #[.pointer (some ⟨A.v, 0, none⟩), .int .i64 n, .int .i64 c, .int .i64 f, .agg x.cs.toArray, .slice r.a r.n r.c] u fun e w' => e = .returned (.tuple #[.int .i64 (V.fdS n c f x l).1.1, .int .i64 (V.fdS n c f x l).1.2]) ∧ VG A (V.fdS n c f x l).2 T u w' := by
  have hlt := h.lt
  have hG := fun w' (b : Below u.heap.size u w') => (h.later b).geom
  have hI := fun w' => inode_any V.s n w'
  have h4 := sltC_one V.s n
  have hsl := slt_b V.s n
  have wps := sec_wf V.s n
  unfold VZ.fdS VZ.fdP
  unfold sltC at h4
  generalize V.s.sec n = ps at *
  generalize V.s.slt n = sl at *
  generalize V.s.grp n = gn at *
  generalize V.s.idx n = xn at *
  have wO := oA_wf sl f
  have hO := fun w' (b : Below u.heap.size u w') => offset_any sl f w' (hT.later b)
  have hFl := fB_len x f
  obtain ⟨X, hX⟩ : ∃ X, Hid ((if V.s.ierr n = 0 then (if isF f then ((V.patN ⟨0, ps, oA sl f, ints (fB x f), 4, l, n, c, false⟩, V.patE ⟨0, ps, oA sl f, ints (fB x f), 4, l, n, c, false⟩), V.pat ⟨0, ps, oA sl f, ints (fB x f), 4, l, n, c, false⟩) else ((0, 2), V)) else ((0, V.s.ierr n), V)) = X) := ⟨_, rfl⟩
  rw [hX.out]
  obtain ⟨e0, he0⟩ : ∃ e0, Hid (V.s.ierr n = e0) := ⟨_, rfl⟩
  rw [he0.out] at hI
  have hXo := hX.out
  rw [he0.out] at hXo
  clear he0 hX
  by_cases d0 : e0 = 0
  · subst d0
    rw [if_pos rfl] at hXo
    by_cases hf : isF f
    · rw [if_pos hf] at hXo
      have hX1 : Hid _ := hXo
      have hE : oE sl f = 0 := if_pos ⟨hsl, hf⟩
      rw [hE] at hO
      have hFd := fun w' (b : Below u.heap.size u w') => fields_new x f w' (hT.later b) hf
      have hPt : ∀ (w13 : World) (s : Sv), Below u.heap.size u w13 → BsS w13 s (ints (fB x f)) → InE (fun y => u.heap.size ≤ y) s → Calls Tryz.prog 42 #[.pointer (some ⟨A.v, 0, none⟩), .agg ((⟨0, ps, oA sl f, [], 4, [], n, c, false⟩ : Pt).cs s r).toArray] w13 fun e w' => e = .returned (.tuple #[.int .i64 (V.patN ⟨0, ps, oA sl f, ints (fB x f), 4, l, n, c, false⟩), .int .i64 (V.patE ⟨0, ps, oA sl f, ints (fB x f), 4, l, n, c, false⟩)]) ∧ VG A (V.pat ⟨0, ps, oA sl f, ints (fB x f), 4, l, n, c, false⟩) T w13 w' := fun w13 s b hs he => by
        obtain ⟨U, E, F, H, hT'⟩ := h.later b
        exact vpatch_any (X := fun y => u.heap.size ≤ y ∨ Y y) H ok ht hk hT' ⟨0, ps, oA sl f, ints (fB x f), 4, l, n, c, false⟩ s r ⟨wfi_of (by simp only; omega), wps, wO, wfi_of (by simp only; omega), hn, hc⟩
          ⟨hs, hr.step (Stp.of_below b (fun _ => False)) hy (fun _ _ => id), he.mono (fun _ e => .inl e), hy.mono (fun _ e => .inr e)⟩
          (fun y hy hf => by
            have hty : T y := (hT' _).2 (.inr (.inr (.inl hf)))
            rcases hy with e | e
            · have := hlt _ hty; omega
            · exact (hY y e).1 hty) (by simp only; omega) (by simp only; omega)
      generalize V.patN ⟨0, ps, oA sl f, ints (fB x f), 4, l, n, c, false⟩ = pN at *
      generalize V.patE ⟨0, ps, oA sl f, ints (fB x f), 4, l, n, c, false⟩ = pE at *
      generalize V.pat ⟨0, ps, oA sl f, ints (fB x f), 4, l, n, c, false⟩ = pV at *
      generalize ints (fB x f) = L at *
      generalize oA sl f = o at *
      generalize oZ sl f = z at *
      clear hE hf hXo
      go_enter Tryz.func16, Tryz.ntmps16
      go_wp2_with (first
        | (refine at_boxI (by rfl) _ (by rfl) x (by rfl) ?_; intro gb w1 a1 z1 r1 b1)
        | (go_at_call 13; refine (hG _ b1).mono ?_; rintro e w2 ⟨rfl, b2⟩; clear hG)
        | (go_at_call 12; refine (hI _).mono ?_; rintro e w3 ⟨rfl, b3⟩; clear hI)
        | (refine at_newC 57 4 _ srtSlt (by rfl) (by rfl) ?_; intro gs w4 a4 z4 r4 b4)
        | (refine at_putC 57 4 _ srtSlt (by rfl) _ _ (by rfl) gs (by rfl) [.int .i64 ps, .int .i64 sl, .int .i64 gn, .int .i64 xn] (by rfl) rfl h4 _ r4 (by rfl) ?_; intro w5 r5 s5
           have k2 := b2.size
           have k3 := b3.size
           have k4 := b4.size
           have k1 := b1.size
           have B5 : Below u.heap.size u w5 := ((Stp.of_below (bnext (bnext (bnext b1 b2 (Nat.le_refl _)) b3 (Nat.le_refl _)) b4 (Nat.le_refl _)) (fun _ => False)).next s5 (fun x e => .inr (by omega))).below (Nat.le_refl _) (fun x e => e.elim)
           have rb5 := ((r1.later b2).later b3).later b4 |>.step s5 (fun e => by omega)
           have c1 := r5.cell 1 _ rfl)
        | (go_at_call 41; refine (hO _ B5).mono ?_; rintro e w6 ⟨rfl, b6⟩; clear hO c1))
      have B6 := bnext B5 b6 (Nat.le_refl _)
      have rb6 := rb5.later b6
      have rs6 := r5.later b6
      have q6 := B6.size
      clear hT r1 b1 b2 b3 b4 r4 s5 rb5 r5 b6 B5
      have nb : ¬ T gb := fun e => by have := hlt _ e; omega
      have ns : ¬ T gs := fun e => by have := hlt _ e; omega
      have dd : Below w6.heap.size w6 w6.drew := (Below.refl _ _).drew
      refine wp_region_held_drew (S := fun v => Stp T w6 v) (by kernel_rfl) (Stp.refl _ _).drew (fun hHeld => ?_)
      refine tl 0 (.pointer (some ⟨A.v, 0, none⟩)) rfl ?_
      try simp only [z]
      refine tl 1 (.pointer (some ⟨gs, 0, none⟩)) rfl ?_
      try simp only [z]
      refine tl 2 (.int .i64 ps) rfl ?_ (fun u hu => by have x1 := (rs6.step hu ns).cell 0 _ rfl; go_simp)
      try simp only [z]
      refine tl 3 (.int .i64 o) rfl ?_
      try simp only [z]
      refine tm 4 (.agg x.cs.toArray) rfl
        (yields_I (by rfl) (.tmp 10) rfl gb (by rfl) x (fun v hv => rb6.step hv nb)) ?_
      try simp only [z]
      refine tl 5 (.int .i64 f) rfl ?_
      try simp only [z]
      refine tl 7 (.slice r.a r.n r.c) rfl ?_
      try simp only [z]
      refine tl 8 (.int .i64 n) rfl ?_
      try simp only [z]
      refine tl 9 (.int .i64 c) rfl ?_
      try simp only [z]
      refine rd 6 rfl (fun K hK => ?_)
      go_simp
      refine (hFd _ (bnext B6 dd (Nat.le_refl _))).mono ?_
      rintro e v6 ⟨s, rfl, bs, ie, c6⟩
      try go_wp2_with fail
      refine hK.out _ _ (hHeld.next (Stp.of_below c6 (fun _ => False)) (fun _ h => h.elim)) (fun hHeld => ?_)
      clear hK K
      try simp only [z]
      refine tm 10 (.agg ((⟨0, ps, o, [], 4, [], n, c, false⟩ : Pt).cs s r).toArray) rfl
        (yields_bldPi (by rfl) _ _ _ _ _ _ _ (by rfl) ps o n c s r (by rfl) (by rfl) (by rfl) (by rfl) (by rfl) (by rfl) (by rfl)) ?_
      try simp only [z]
      refine rd 11 rfl (fun K hK => ?_)
      go_simp
      have B11 := bnext B6 (bnext dd c6 (Nat.le_refl _)) (Nat.le_refl _)
      refine (hPt _ s B11 bs (ie.mono (fun y h => Nat.le_trans q6 h))).mono ?_
      rintro e v11 ⟨rfl, k11⟩
      try go_wp2_with fail
      refine hK.out _ _ (hHeld.next k11.stp (fun _ h => .inl h)) (fun hHeld => ?_)
      clear hK K
      try simp only [z]
      refine tl 12 (.int .i64 pN) rfl ?_
      try simp only [z]
      refine tl 13 (.int .i64 pE) rfl ?_
      try simp only [z]
      refine tl 14 (.int .i64 pN) rfl ?_
      try simp only [z]
      refine tl 15 (.int .i64 pE) rfl ?_
      try simp only [z]
      refine wpAnyH_done (by kernel_rfl) ?_ _
      go_wp2_with fail
      go_returns
      rw [← hX1.out]
      exact ⟨rfl, VG.from B11 k11⟩
    · rw [if_neg hf] at hXo
      have hX1 : Hid _ := hXo
      have hE : oE sl f = 2 := if_neg (fun e => hf e.2)
      rw [hE] at hO
      generalize oA sl f = o at *
      generalize oZ sl f = z at *
      clear hE hf hXo
      go_enter Tryz.func16, Tryz.ntmps16
      go_wp2_with (first
        | (refine at_boxI (by rfl) _ (by rfl) x (by rfl) ?_; intro gb w1 a1 z1 r1 b1)
        | (go_at_call 13; refine (hG _ b1).mono ?_; rintro e w2 ⟨rfl, b2⟩; clear hG)
        | (go_at_call 12; refine (hI _).mono ?_; rintro e w3 ⟨rfl, b3⟩; clear hI)
        | (refine at_newC 57 4 _ srtSlt (by rfl) (by rfl) ?_; intro gs w4 a4 z4 r4 b4)
        | (refine at_putC 57 4 _ srtSlt (by rfl) _ _ (by rfl) gs (by rfl) [.int .i64 ps, .int .i64 sl, .int .i64 gn, .int .i64 xn] (by rfl) rfl h4 _ r4 (by rfl) ?_; intro w5 r5 s5
           have k2 := b2.size
           have k3 := b3.size
           have k4 := b4.size
           have k1 := b1.size
           have B5 : Below u.heap.size u w5 := ((Stp.of_below (bnext (bnext (bnext b1 b2 (Nat.le_refl _)) b3 (Nat.le_refl _)) b4 (Nat.le_refl _)) (fun _ => False)).next s5 (fun x e => .inr (by omega))).below (Nat.le_refl _) (fun x e => e.elim)
           have c1 := r5.cell 1 _ rfl)
        | (go_at_call 41; refine (hO _ B5).mono ?_; rintro e w6 ⟨rfl, b6⟩; clear hO c1))
      go_returns
      rw [← hX1.out]
      exact ⟨rfl, VG.low h (bnext B5 b6 (Nat.le_refl _))⟩
  · rw [if_neg d0] at hXo
    have hX1 : Hid _ := hXo
    have d1 : ¬ e0 = 0 := d0
    clear d0 hXo hO
    go_enter Tryz.func16, Tryz.ntmps16
    go_wp2_with (first
      | (refine at_boxI (by rfl) _ (by rfl) x (by rfl) ?_; intro gb w1 a1 z1 r1 b1)
      | (go_at_call 13; refine (hG _ b1).mono ?_; rintro e w2 ⟨rfl, b2⟩; clear hG)
      | (go_at_call 12; refine (hI _).mono ?_; rintro e w3 ⟨rfl, b3⟩; clear hI)
      | (refine at_newC 57 4 _ srtSlt (by rfl) (by rfl) ?_; intro gs w4 a4 z4 r4 b4)
      | (refine at_putC 57 4 _ srtSlt (by rfl) _ _ (by rfl) gs (by rfl) [.int .i64 ps, .int .i64 sl, .int .i64 gn, .int .i64 xn] (by rfl) rfl h4 _ r4 (by rfl) ?_; intro w5 r5 s5
         have k2 := b2.size
         have k3 := b3.size
         have k4 := b4.size
         have k1 := b1.size
         have B5 : Below u.heap.size u w5 := ((Stp.of_below (bnext (bnext (bnext b1 b2 (Nat.le_refl _)) b3 (Nat.le_refl _)) b4 (Nat.le_refl _)) (fun _ => False)).next s5 (fun x e => .inr (by omega))).below (Nat.le_refl _) (fun x e => e.elim)))
    go_returns
    rw [← hX1.out]
    exact ⟨rfl, VG.low h B5⟩
set_option maxHeartbeats 4000000 in
theorem iset_any (h : Vo u A V T) (ok : VOk t k V) (ht : t ≤ 8990) (hk : k < 2000) (hT : Tb u) (h0 : ¬ T 0) (n f : Int) (x : Ino) (r : Sv) (l : List Int) (hn : wfi n) (hr : InsS u r l) (Y : Nat → Prop) (hy : InE Y r) (hY : ∀ y, Y y → ¬ T y ∧ y < u.heap.size) (hl : l.length ≤ 6) :
    Calls Tryz.prog 6 #[.pointer (some ⟨A.v, 0, none⟩), .int .i64 n, .int .i64 f, .agg x.cs.toArray, .slice r.a r.n r.c] u fun e w' => e = .returned (.tuple #[.int .i64 (V.fdS n 0 f x l).1.1, .int .i64 (V.fdS n 0 f x l).1.2]) ∧ VG A (V.fdS n 0 f x l).2 T u w' := by
  have hA := fun w' (b : Below u.heap.size u w') => iabout_any (h.later b) ok ht hk (hT.later b) h0 n 0 f x r l hn (wfi_of (by omega)) (hr.step (Stp.of_below b (fun _ => False)) hy (fun _ _ => id)) Y hy (fun y e => ⟨(hY y e).1, Nat.lt_of_lt_of_le (hY y e).2 b.size⟩) hl
  generalize V.fdS n 0 f x l = X at *
  go_enter Tryz.func6, Tryz.ntmps6
  go_wp2_with (first
    | (refine at_boxI (by rfl) _ (by rfl) x (by rfl) ?_; intro gb w1 a1 z1 r1 b1)
    | (refine at_getI (by rfl) _ (by rfl) gb (by rfl) x r1 ?_)
    | (go_at_call 16; refine (hA _ b1).mono ?_; rintro e w2 ⟨rfl, k2⟩; clear hA))
  go_returns
  exact ⟨rfl, VG.from b1 k2⟩
end
set_option maxRecDepth 100000
def VZ.usF : Nat → Nat → VZ → List Int × VZ
  | 0, _, V => ([], V)
  | m + 1, a, V => if (V.inX ((a : Int) + 1)).k.toNat = 0 then VZ.usF m (a + 1) (V.inV ((a : Int) + 1)) else (((a : Int) + 1) :: (VZ.usF m (a + 1) (V.inV ((a : Int) + 1))).1, (VZ.usF m (a + 1) (V.inV ((a : Int) + 1))).2)
def VZ.us (V : VZ) : List Int × VZ := VZ.usF V.s.inodes.toNat 0 V
def AllR (u : World) (A : VA) (V' : VZ) (T : Nat → Prop) (l : List Int) (v : Value) (w' : World) : Prop :=
  OwV w' v l ∧ New u.heap.size v ∧ ∃ T', Vo w' A V' T' ∧ Stp T u w' ∧ Grew T T' u w' ∧ ∀ r, v.ownBlock = some r → ¬ T' r
section
variable {u : World} {A : VA} {V V2 : VZ} {T T1 : Nat → Prop} {t k : Nat}
theorem allR_go {v : Value} {l : List Int} {wr w' : World} (o : OwV wr v l) (n : New u.heap.size v) (s : Stp T u wr) (g : Grew T T1 u wr) (a : ∀ r, v.ownBlock = some r → ¬ T1 r) (k : VG A V2 T1 wr w') : AllR u A V2 T l v w' := by
  obtain ⟨T2, H2, s2, g2⟩ := k
  refine ⟨o.step s2 a, n, T2, H2, s.next s2 (fun x hx => ?_), g.trans g2 s.size s2.size, fun r hr e => ?_⟩
  · rcases g x hx with e | e
    · exact .inl e
    · exact .inr e.1
  · rcases g2 r e with e | e
    · exact a r hr e
    · have := o.lt hr; omega
theorem AllR.later {v : Value} {l : List Int} {wr w' : World} (h : AllR u A V T l v wr) (b : Below wr.heap.size wr w') : AllR u A V T l v w' := by
  obtain ⟨o, n, T1, H, s, g, a⟩ := h
  exact allR_go o n s g a (VG.low H b)
theorem AllR.app {v v' : Value} {l : List Int} {y : Int} {wr w' : World} (h : AllR u A V T l v wr) (hA : Apd wr u.heap.size 3 1 v l.length 1 (l.map (Value.int .i64) ++ [.int .i64 y]) v' w') : AllR u A V T (l ++ [y]) v' w' := by
  obtain ⟨o, n, T1, H, s, g, a⟩ := h
  obtain ⟨h1, h2, h3, h4, _⟩ := hA
  refine ⟨?_, h2, T1, H.step h4 (fun x hx e => a x e hx), s.next h4 (fun x e => .inr (n x e)), fun x hx => ?_, fun r hr e => ?_⟩
  · unfold OwV
    simpa using h1
  · rcases g x hx with e | e
    · exact .inl e
    · exact .inr ⟨e.1, Nat.lt_of_lt_of_le e.2 h4.size⟩
  · rcases h3 with h | h
    · exact a r (by rw [← h]; exact hr) e
    · rw [hr] at h
      have := H.lt r e
      have := Option.some.inj h.1
      omega
set_option maxHeartbeats 16000000 in
theorem iall_any (h : Vo u A V T) (ok : VOk t k V) (ht : t + 200 ≤ 8990) :
    Calls Tryz.prog 7 #[.pointer (some ⟨A.v, 0, none⟩)] u fun e w' => ∃ v, e = .returned v ∧ AllR u A V.us.2 T V.us.1 v w' := by
  have hlt := h.lt
  have hG := fun w' (b : Below u.heap.size u w') => (h.later b).geom
  have hN := fun w' => inodes_any V.s w'
  obtain ⟨R, hR⟩ : ∃ R, Hid (V.us = R) := ⟨_, rfl⟩
  rw [hR.out]
  have hRo : VZ.usF V.s.inodes.toNat 0 V = R := hR.out
  have hin : 0 ≤ V.s.inodes ∧ V.s.inodes ≤ 192 := by unfold Gm.inodes; rw [if_pos h.sok]; exact Gm.inoB h.sok
  obtain ⟨N, hNN⟩ : ∃ N : Nat, V.s.inodes = (N : Int) := ⟨V.s.inodes.toNat, by omega⟩
  rw [hNN] at hN hRo hin
  rw [Int.toNat_natCast] at hRo
  clear hNN hR
  go_enter Tryz.func7, Tryz.ntmps7
  go_wp2_with (first
    | (go_at_call 13; refine (hG _ (Below.refl _ _)).mono ?_; rintro e w1 ⟨rfl, b1⟩; clear hG)
    | (go_at_call 17; refine (hN _).mono ?_; rintro e w2 ⟨rfl, b2⟩; clear hN))
  have B2 := bnext b1 b2 (Nat.le_refl _)
  have r0 : AllR u A V T [] (.slice none 0 0) w2 := ⟨OwV.nil w2, (fun r e => by cases e), T, h.later B2, Stp.of_below B2 T, Grew.refl _ _ _, fun r e => by cases e⟩
  have hs : u.heap.size ≤ w2.heap.size := B2.size
  clear b1 b2
  go_loopw [3, 11] (fun v x wr => ∃ (a : Nat) (Va : VZ) (out : List Int) (sv : Sv), a ≤ N ∧ x = .int .i64 (a : Int) ∧ v = .slice sv.a sv.n sv.c ∧ out.length ≤ a ∧ (out ++ (VZ.usF (N - a) a Va).1, (VZ.usF (N - a) a Va).2) = R ∧ VOk (t + a) k Va ∧ AllR u A Va T out (.slice sv.a sv.n sv.c) wr) (fun _ x _ => N - (intOf x).toNat)
  case atStart => exact ⟨0, V, [], Sv.nil, Nat.zero_le _, rfl, rfl, Nat.le_refl _, by rw [← hRo]; rfl, ok, r0⟩
  case round =>
    obtain ⟨a, Va, out, sv, ha, rfl, rfl, ho, eR, oka, I⟩ := hrel
    have hu : u.heap.size ≤ wr.heap.size := by obtain ⟨_, _, _, _, s, _⟩ := I; exact s.size
    clear r0 B2 hRo
    by_cases hlt' : (a : Int) < (N : Int)
    · obtain ⟨n, hn⟩ : ∃ n, N - a = n + 1 := ⟨N - a - 1, by omega⟩
      have hn' : Hid (N - (a + 1) = n) := by show _ = _; omega
      rw [hn] at eR
      unfold VZ.usF at eR
      have hA := fun T1 (H : Vo wr A Va T1) => iload_any H oka (by omega) ((a : Int) + 1)
      have okk := oka.inV ((a : Int) + 1)
      obtain ⟨V2, hV2⟩ : ∃ V2, Hid (Va.inV ((a : Int) + 1) = V2) := ⟨_, rfl⟩
      obtain ⟨X, hX2⟩ : ∃ X, Hid (Va.inX ((a : Int) + 1) = X) := ⟨_, rfl⟩
      obtain ⟨e1, he2⟩ : ∃ e, Hid (Va.inE ((a : Int) + 1) = e) := ⟨_, rfl⟩
      rw [hV2.out, hX2.out, he2.out] at hA
      rw [hV2.out, hX2.out] at eR
      rw [hV2.out] at okk
      have eRh : Hid _ := eR
      clear hn hV2 hX2 he2 eR oka
      obtain ⟨o1, n1, T1, H1, s1, g1, na⟩ := I
      have hA1 := hA T1 H1
      have l1 := H1.lt
      have nx := fun w6 (k6 : VG A V2 T1 wr w6) => allR_go o1 n1 s1 g1 na k6
      have hbig : out.length + 1 ≤ 1000000 := by omega
      clear hA
      by_cases hk : X.k.toNat = 0
      · have eR0 := eRh.out
        rw [if_pos hk] at eR0
        have eR1 : Hid _ := eR0
        clear eR0 eRh
        go_wp2_with (first
          | (go_at_call 5; refine hA1.mono ?_; rintro e w6 ⟨rfl, k6⟩; clear hA1)
          | (refine at_newI (by rfl) (by rfl) ?_; intro gx w7 a7 z7 r7 b7)
          | (refine at_putI (by rfl) _ _ (by rfl) gx (by rfl) X (by rfl) Ino.zero r7 ?_; intro w8 r8 s8
             have c0 : w8.cell? ⟨gx, 0, none⟩ = some (.int .u8 0) := by have := r8.cell 0 (.int .u8 (X.k.toNat : Int)) rfl; rw [hk] at this; exact this))
        have B8 : Below w6.heap.size w6 w8 := ((Stp.of_below b7 (fun _ => False)).next s8 (fun x e => .inr (by omega))).below (Nat.le_refl _) (fun x e => e.elim)
        have I8 := (nx w6 k6).later B8
        go_roundw
        case rel => exact ⟨a + 1, V2, out, sv, by omega, by go_num, rfl, by omega, by rw [hn'.out]; exact eR1.out, okk, I8⟩
        case measure => simp [intOf]; omega
      · have eR0 := eRh.out
        rw [if_neg hk] at eR0
        have eR1 : Hid _ := eR0
        clear eR0 eRh
        obtain ⟨kk, hkk⟩ : ∃ kk : Int, Hid ((X.k.toNat : Int) = kk) := ⟨_, rfl⟩
        have dk : ¬ kk = 0 := by rw [← hkk.out]; omega
        go_wp2_with (first
          | (go_at_call 5; refine hA1.mono ?_; rintro e w6 ⟨rfl, k6⟩; clear hA1)
          | (refine at_newI (by rfl) (by rfl) ?_; intro gx w7 a7 z7 r7 b7)
          | (refine at_putI (by rfl) _ _ (by rfl) gx (by rfl) X (by rfl) Ino.zero r7 ?_; intro w8 r8 s8
             have c0 : w8.cell? ⟨gx, 0, none⟩ = some (.int .u8 kk) := by have := r8.cell 0 (.int .u8 (X.k.toNat : Int)) rfl; rw [hkk.out] at this; exact this
             have B8 : Below w6.heap.size w6 w8 := ((Stp.of_below b7 (fun _ => False)).next s8 (fun x e => .inr (by omega))).below (Nat.le_refl _) (fun x e => e.elim)
             have I8 := (nx w6 k6).later B8
             have hz8 : u.heap.size ≤ w8.heap.size := by have := k6.stp.size; have := B8.size; omega)
          | (at_builtin; refine at_appR elI u.heap.size rfl _ _ (by rfl) (by rfl) (I8.later ((Below.refl _ w8).alloc (Nat.le_refl _) _)).1 I8.2.1 (some ⟨w8.heap.size, 0, none⟩) 1 [.int .i64 ((a : Int) + 1)] (by rfl) (by simp) (fun e => by cases e) (fun ad e => by injection e with e; subst e; exact cell_one_new _ _ _) (by simp [Value.oneCell']) hbig (Nat.le_trans hz8 (by simp)) ?_; intro v' w9 hA
             have I9 := (I8.later ((Below.refl _ w8).alloc (Nat.le_refl _) _)).app hA
             obtain ⟨xa, xn, xc, rfl⟩ := I9.1.shape
             clear hA))
        go_roundw
        case rel => exact ⟨a + 1, V2, out ++ [(a : Int) + 1], ⟨xa, xn, xc⟩, by omega, by go_num, rfl, by simp; omega, by rw [hn'.out, ← eR1.out]; simp, okk, I9⟩
        case measure => simp [intOf]; omega
    · obtain rfl : a = N := by omega
      rw [Nat.sub_self] at eR
      unfold VZ.usF at eR
      have eR' : Hid _ := eR
      clear eR oka
      go_wp2
      go_returns
      refine ⟨_, rfl, ?_⟩
      rw [← eR'.out]
      simp only [List.append_nil]
      exact I
end
set_option maxRecDepth 1000000
def yI : Ino := ⟨2, 1, 0, 0, 0, 0, 0, 0, 0⟩
def yV : VZ := (wV0.fdS 1 0 0 yI []).2
def yW : VZ := yV.inV 1
theorem y_n : (wV0.fdS 1 0 0 yI []).1.1 = 1 := by decide +kernel
theorem y_e : (wV0.fdS 1 0 0 yI []).1.2 = 0 := by decide +kernel
theorem y_0 : yV.inE 1 = 0 := by decide +kernel
theorem y_b : iL (yV.inX 1) = iL yI := by decide +kernel
theorem y_x : yV.inX 1 = yI := by rw [← gI_iL (yV.inX 1), y_b, gI_iL]
theorem y_l : yW.us.1 = [1] := by decide +kernel
theorem y_p : yV = wV0.pat (wV0.fdP 1 0 0 yI []) := by
  have h1 : wV0.s.ierr 1 = 0 := by decide +kernel
  unfold yV VZ.fdS
  rw [if_pos h1, if_pos ⟨by decide, by decide⟩]
theorem y_ok : VOk 6 1 yV := by
  rw [y_p]
  exact (w_ok0.pat (wV0.fdP 1 0 0 yI []) (by simp [VZ.fdP])).mono (by decide) (by decide)
theorem yw_ok : VOk 7 1 yW := y_ok.inV 1
set_option maxRecDepth 100000
theorem Tb.lt {w : World} (h : Tb w) : 0 < w.heap.size := World.block_lt_of_cell? w _ (h 0 (by omega)).1
set_option maxHeartbeats 8000000 in
theorem works19_any (u : World) (ht : Tab u) (hb : Tb u) : Calls Tryz.prog 4 #[] u fun e w' => e = .returned (.bool true) ∧ Below u.heap.size u w' := by
  have hSh := shape_zero u
  have hBl := fun w => blank_any wG 11 w_tot (by omega) w
  have hMd : ∀ w b, Wd w b 11 11 (blkL wG 11) → Tab w → _ := fun w b h t => made_any h t 4 (by omega) (by omega)
  have hm0 : Hid (mkE ((DS.new 11).load (blkL wG 11)) 4 = 0) := by show _ = _; unfold mkE; rw [if_neg (by omega)]; exact w_find
  have e0 : Hid (VZ.new ((DS.new 11).load (blkL wG 11)) PS.fresh.turn (WS.turn ⟨0, 0, 0⟩ 0 PS.fresh) (4 : Int).toNat = wV0) := rfl
  have hu0 := hb.lt
  have heq : ∀ w, (Op.equalIn 10000 26 (.agg yI.cs.toArray) (.agg yI.cs.toArray)).run Tryz.prog w = .ok true w := fun w => by rw [eqI, same_self]
  have hg := guardI
  go_enter Tryz.func4, Tryz.ntmps4
  go_wp2_with (first
    | (go_at_call 10; refine hSh.mono ?_; rintro e w1 ⟨rfl, b1⟩; clear hSh)
    | (go_at_call 9; refine (hBl _).mono ?_; rintro e w2 ⟨gb, rfl, l2, r2, b2⟩; clear hBl
       have B2 := bnext b1 b2 (Nat.le_refl _)
       have ht2 := ht.later B2)
    | (go_at_call 8; refine (hMd _ _ r2 ht2).mono ?_; rintro e w3 ⟨g6, sP, gD, gW, qq, ge, gx, pv, py, rfl, q3, b3, HM⟩; clear hMd
       obtain ⟨-, A, U, E, F, gy, yc, gp, K, rfl, rfl, rfl, rfl, rfl, z3, WZ⟩ := Or.resolve_left HM (fun h => h.1 hm0.out)
       have H3 := WZ.vx
       rw [e0.out] at H3
       have n3 := WZ.ng.1
       have f3 := WZ.lo.1
       clear WZ HM e0
       have y3 := q3.cell 3 _ rfl)
    | (refine at_bld2 (by rfl) _ _ (by rfl) 2 1 (by rfl) (by rfl) ?_)
    | (refine at_newI (by rfl) (by rfl) ?_; intro gi w4 a4 z4 r4 b4)
    | (refine at_putI (by rfl) _ _ (by rfl) gi (by rfl) yI (by rfl) Ino.zero r4 ?_; intro w5 r5 s5))
  have k3 := b3.size
  have k2 := B2.size
  have B3 := bnext B2 b3 (Nat.le_refl _)
  have B5 : Below w3.heap.size w3 w5 := ((Stp.of_below b4 (fun _ => False)).next s5 (fun x e => .inr (by omega))).below (Nat.le_refl _) (fun x e => e.elim)
  have zT : ∀ x, Vt A U E F x → x = 1 ∨ u.heap.size ≤ x := fun x h => (f3 x h).imp_right (fun e => by omega)
  have hz : A.z = u.heap[1]? := by rw [z3]; exact B2.block 1 ht.lt
  have V3 : Vo w3 A wV0 (Vt A U E F) := ⟨U, E, F, H3, fun _ => Iff.rfl⟩
  have V5 := Vo.later V3 B5
  have hl3 := H3.lt
  have q5 := q3.later B5
  have ni : ¬ Vt A U E F gi := fun e => by have := hl3 _ e; omega
  have BU := bnext B3 B5 (Nat.le_refl _)
  generalize hT : Vt A U E F = T at *
  have hSt := fun w' (b : Below w5.heap.size w5 w') => iset_any (V5.later b) w_ok0 (by omega) (by omega) (hb.later (bnext BU b (Nat.le_refl _))) (fun e => by rcases zT _ e with h | h <;> omega) 1 0 yI Sv.nil [] (wfi_of (by omega)) (InsS.nil w') (fun _ => False) (InE.nil _) (fun y e => e.elim) (by simp)
  rw [y_n, y_e] at hSt
  clear y3 q3 r4 b4 s5 H3
  refine wp_region_held_drew (S := fun v => Stp T w5 v) (by kernel_rfl) (Stp.refl _ _).drew (fun hHeld => ?_)
  refine tl 0 (.pointer (some ⟨g6, 0, none⟩)) rfl ?_
  try simp only [z]
  refine tl 1 (.pointer (some ⟨g6, 0, none⟩)) rfl ?_
  try simp only [z]
  refine tl 2 (.pointer (some ⟨g6, 3, none⟩)) rfl ?_
  try simp only [z]
  refine tl 3 (.pointer (some ⟨A.v, 0, none⟩)) rfl ?_ (fun u hu => by have x1 := (q5.step hu n3).cell 3 _ rfl; go_simp)
  try simp only [z]
  refine tm 4 (.agg yI.cs.toArray) rfl
    (yields_I (by rfl) (.tmp 3) rfl gi (by rfl) yI (fun v hv => r5.step hv ni)) ?_
  try simp only [z]
  refine rd 5 rfl (fun K hK => ?_)
  go_simp
  refine (hSt _ (Below.refl _ _).drew).mono ?_
  rintro e v6 ⟨rfl, k6⟩
  try go_wp2_with fail
  refine hK.out _ _ (hHeld.next k6.stp (fun _ h => .inl h)) (fun hHeld => ?_)
  clear hK K
  try simp only [z]
  refine tl 6 (.tuple #[.int .i64 1, .int .i64 0]) rfl ?_
  try simp only [z]
  refine tl 7 (.int .i64 1) rfl ?_
  try simp only [z]
  refine tl 8 (.int .i64 0) rfl ?_
  try simp only [z]
  refine tl 9 (.int .i64 1) rfl ?_
  try simp only [z]
  refine tl 10 (.int .i64 0) rfl ?_
  try simp only [z]
  refine wpAnyH_done (by kernel_rfl) ?_ _
  have k6p : VG A yV T w5.drew v6 := k6
  obtain ⟨T6, H6, s6, g6'⟩ := k6p
  clear k6 hSt hHeld
  have d5 : Below w5.heap.size w5 w5.drew := (Below.refl _ _).drew
  have q6 := (q5.later d5).step s6 n3
  have r6 := (r5.later d5).step s6 ni
  have y3 := q6.cell 3 _ rfl
  have zT6 : ∀ x, T6 x → x = 1 ∨ u.heap.size ≤ x := fun x h => by
    rcases g6' x h with e | e
    · exact zT x e
    · exact .inr (Nat.le_trans BU.size e.1)
  have n36 : ¬ T6 g6 := fun e => by
    rcases g6' _ e with h | h
    · exact n3 h
    · have := q5.lt; exact absurd h.1 (by show ¬ w5.heap.size ≤ g6; omega)
  have ni6 : ¬ T6 gi := fun e => by
    rcases g6' _ e with h | h
    · exact ni h
    · have := r5.lt; exact absurd h.1 (by show ¬ w5.heap.size ≤ gi; omega)
  have hLd := iload_any H6 y_ok (by omega) 1
  rw [y_0, y_x] at hLd
  have l6 := H6.lt
  clear q5 r5
  go_wp2_with (first
    | (go_at_call 5; refine hLd.mono ?_; rintro e w7 ⟨rfl, k7⟩; clear hLd y3
       have k7p : VG A yW T6 v6 w7 := k7
       obtain ⟨T7, H7, s7, g7⟩ := k7p
       have q7 := q6.step s7 n36
       have r7 := r6.step s7 ni6
       clear k7)
    | (refine at_newI (by rfl) (by rfl) ?_; intro gy8 w8 a8 z8 r8 b8)
    | (refine at_putI (by rfl) _ _ (by rfl) gy8 (by rfl) yI (by rfl) Ino.zero r8 ?_; intro w9 r9 s9
       have B9 : Below w7.heap.size w7 w9 := ((Stp.of_below b8 (fun _ => False)).next s9 (fun x e => .inr (by omega))).below (Nat.le_refl _) (fun x e => e.elim)
       have y3 := (q7.later B9).cell 3 _ rfl
       have x9 := r7.later B9
       have hAl := iall_any (H7.later B9) yw_ok (by omega)
       rw [y_l] at hAl)
    | (refine at_getI (by rfl) _ (by rfl) gy8 (by rfl) yI r9 ?_)
    | (refine at_getI (by rfl) _ (by rfl) gi (by rfl) yI x9 ?_)
    | (go_at_call 7; refine hAl.mono ?_; rintro e w10 ⟨v10, rfl, k10⟩; clear hAl
       obtain ⟨o10, -, T10, H10, s10, g10, -⟩ := k10
       have b11 : Below w10.heap.size w10 (w10.alloc (.cells #[.int .i64 1] 3)) := (Below.refl _ w10).alloc (Nat.le_refl _) _
       have o7 := o10.later b11
       have o8 : OwV (w10.alloc (.cells #[.int .i64 1] 3)) (.slice (some ⟨w10.heap.size, 0, none⟩) 1 1) [1] := Rw1.own (l := [1]) (cur := #[.int .i64 1]) ⟨heap_alloc_new w10 _, Nat.le_refl _, by decide, rfl, rfl⟩)
    | (go_at_call 11; refine (same_anyC o7 o8 (by decide)).mono ?_; rintro e w12 ⟨rfl, b12⟩))
  go_returns
  refine ⟨by simp, ?_⟩
  have zT7 : ∀ x, T7 x → x = 1 ∨ u.heap.size ≤ x := fun x h => by
    rcases g7 x h with e | e
    · exact zT6 x e
    · exact .inr (Nat.le_trans BU.size (Nat.le_trans s6.size e.1))
  have R : Stp (fun x => x = 1 ∨ u.heap.size ≤ x) u w12 := ((((((Stp.of_below (bnext BU d5 (Nat.le_refl _)) (fun x => x = 1 ∨ u.heap.size ≤ x)).next s6 (fun x hx => .inl (zT x hx))).next s7 (fun x hx => .inl (zT6 x hx))).trans (Stp.of_below B9 _)).next s10 (fun x hx => .inl (zT7 x hx))).trans (Stp.of_below b11 _)).trans (Stp.of_below b12 _)
  exact below_vol R (fun _ h => h) ((H10.later b11).later b12) hz
end Go.Proofs.YtgdnhkdfcjpdiaaGreatDoor
namespace Go.Proofs.YtgdnhkdfcjpdiaaGreatDoor.itabVoid
open Go.ChangeShapes Go.WideShapes Go.ChangeAt Go.RowKit
set_option maxRecDepth 100000
theorem geom_nil (w : World) : Calls Tryz.prog 13 #[.pointer none] w fun e w' => e = .returned (.agg #[.int .i64 0, .int .i64 0, .int .i64 0]) ∧ Below w.heap.size w w' := by
  go_enter Tryz.func13, Tryz.ntmps13
  go_wp2_with (first
    | (refine at_newG (by rfl) (by rfl) ?_; intro g2 w2 a2 z2 r2 b2)
    | (refine at_putG (by rfl) _ _ (by rfl) g2 (by rfl) Gm.zero (by rfl) _ r2 ?_; intro w3 r3 s3))
  refine bodyPost_ret (retG1 Tryz.results13 rfl r3) rfl ⟨rfl, ((Stp.of_below b2 (fun _ => False)).next s3 (fun x e => .inr (by omega))).below (Nat.le_refl _) (fun x e => e.elim)⟩
theorem load_nil (n : Int) (w : World) : Calls Tryz.prog 5 #[.pointer none, .int .i64 n] w fun e w' => e = .returned (.tuple #[.agg Ino.zero.cs.toArray, .int .i64 1]) ∧ Below w.heap.size w w' := by
  go_enter Tryz.func5, Tryz.ntmps5
  go_wp2_with (first
    | (refine at_newI (by rfl) (by rfl) ?_; intro gr w1 a1 z1 r1 b1)
    | (refine at_bld0 (by rfl) (by rfl) ?_)
    | (refine at_putI (by rfl) _ _ (by rfl) gr (by rfl) Ino.zero (by rfl) Ino.zero r1 ?_; intro w2 r2 s2))
  exact bodyPost_ret (retCt srtI Tryz.results5 rfl rfl r2 rfl) rfl ⟨rfl, ((Stp.of_below b1 (fun _ => False)).next s2 (fun x e => .inr (by omega))).below (Nat.le_refl _) (fun x e => e.elim)⟩
theorem about_nil (n c f : Int) (x : Ino) (v : Value) (w : World) : Calls Tryz.prog 16 #[.pointer none, .int .i64 n, .int .i64 c, .int .i64 f, .agg x.cs.toArray, v] w fun e w' => e = .returned (.tuple #[.int .i64 0, .int .i64 1]) ∧ Below w.heap.size w w' := by
  go_enter Tryz.func16, Tryz.ntmps16
  go_wp2_with (first
    | (refine at_boxI (by rfl) _ (by rfl) x (by rfl) ?_; intro gb w1 a1 z1 r1 b1))
  go_returns
  exact ⟨rfl, b1⟩
theorem set_nil (n f : Int) (x : Ino) (w : World) : Calls Tryz.prog 6 #[.pointer none, .int .i64 n, .int .i64 f, .agg x.cs.toArray, .slice none 0 0] w fun e w' => e = .returned (.tuple #[.int .i64 0, .int .i64 1]) ∧ Below w.heap.size w w' := by
  go_enter Tryz.func6, Tryz.ntmps6
  go_wp2_with (first
    | (refine at_boxI (by rfl) _ (by rfl) x (by rfl) ?_; intro gb w1 a1 z1 r1 b1)
    | (refine at_getI (by rfl) _ (by rfl) gb (by rfl) x r1 ?_)
    | (go_at_call 16; refine (about_nil _ _ _ x _ _).mono ?_; rintro e w2 ⟨rfl, b2⟩))
  go_returns
  exact ⟨rfl, bnext b1 b2 (Nat.le_refl _)⟩
theorem all_nil (w : World) : Calls Tryz.prog 7 #[.pointer none] w fun e w' => e = .returned (.slice none 0 0) ∧ Below w.heap.size w w' := by
  have hN := fun w' => inodes_any Gm.zero w'
  rw [show Gm.zero.inodes = 0 from if_neg (fun e => by have := e.1; revert this; decide)] at hN
  go_enter Tryz.func7, Tryz.ntmps7
  go_wp2_with (first
    | (go_at_call 13; refine (geom_nil _).mono ?_; rintro e w1 ⟨rfl, b1⟩)
    | (go_at_call 17; refine (hN _).mono ?_; rintro e w2 ⟨rfl, b2⟩; clear hN))
  refine wp_loop_rounds 1 ?_
  rw [rounds_succ]
  go_wp2_with fail
  go_returns
  exact ⟨rfl, bnext b1 b2 (Nat.le_refl _)⟩
set_option maxHeartbeats 4000000 in
theorem walk (n : Int) (x : Ino) (w : World) (hn : (Lit.int .i64 n).wf = true) (hb : Tb w) (T : ∀ i, i < 3 → w.cell? ⟨1, i, none⟩ = some (.int .i64 ([1, 0, 2].getD i 0))) :
    Calls Tryz.prog 3 #[.int .i64 n, .agg x.cs.toArray] w fun e w' => e = .returned (.bool true) ∧ Below w.heap.size w w' := by
  have ht : Tab w := ⟨T 0 (by decide), T 1 (by decide), T 2 (by decide)⟩
  clear T
  go_enter Tryz.func3, Tryz.ntmps3
  go_wp2_with (first
    | (refine at_boxI (by rfl) _ (by rfl) x (by rfl) ?_; intro gx w0 a0 z0 r0 b0)
    | (go_at_call 4; refine (works19_any _ (ht.later b0) (hb.later b0)).mono ?_; rintro e w1 ⟨rfl, b1⟩)
    | (go_at_call 5; refine (load_nil _ _).mono ?_; rintro e w2 ⟨rfl, b2⟩)
    | (refine at_newI (by rfl) (by rfl) ?_; intro gy w3 a3 z3 r3 b3)
    | (refine at_putI (by rfl) _ _ (by rfl) gy (by rfl) Ino.zero (by rfl) Ino.zero r3 ?_; intro w4 r4 s4
       have B4 : Below w2.heap.size w2 w4 := ((Stp.of_below b3 (fun _ => False)).next s4 (fun x e => .inr (by omega))).below (Nat.le_refl _) (fun x e => e.elim)
       have r5 := ((r0.later b1).later b2).later B4)
    | (refine at_getI (by rfl) _ (by rfl) gx (by rfl) x r5 ?_)
    | (go_at_call 6; refine (set_nil _ _ x _).mono ?_; rintro e w6 ⟨rfl, b6⟩)
    | (go_at_call 7; refine (all_nil _).mono ?_; rintro e w7 ⟨rfl, b7⟩))
  go_returns
  exact ⟨rfl, bnext (bnext (bnext (bnext (bnext b0 b1 (Nat.le_refl _)) b2 (Nat.le_refl _)) B4 (Nat.le_refl _)) b6 (Nat.le_refl _)) b7 (Nat.le_refl _)⟩
end Go.Proofs.YtgdnhkdfcjpdiaaGreatDoor.itabVoid
