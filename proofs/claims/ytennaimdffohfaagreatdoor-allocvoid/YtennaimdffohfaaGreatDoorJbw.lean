/-
  Texts of my own, joined: no statement is proved here.
-/
import Derived.Test.YtennaimdffohfaaGreatDoorJbt
import Derived.Test.YtennaimdffohfaaGreatDoorJbv
set_option linter.unusedSimpArgs false
set_option linter.unusedVariables false
namespace Go.Proofs.YtennaimdffohfaaGreatDoor
open Go.ChangeShapes Go.WideShapes Go.ChangeAt Go.RowKit
set_option maxRecDepth 100000
def VZ.tkP (V : VZ) (r : FR) : Pt := ⟨0, V.s.inG r.g 1, mB r.k r.i, [(((mW r.m r.k r.i true).l.getD (mB r.k r.i).toNat 0).toNat : Int)], 3, [], 0, 0, false⟩
def VZ.tkS (V : VZ) (r : FR) : (Int × Int) × VZ :=
  if (V.mrks [V.s.inG r.g 1]).1 = 0 then (((V.mrks [V.s.inG r.g 1]).2.patN (V.tkP r), (V.mrks [V.s.inG r.g 1]).2.patE (V.tkP r)), (V.mrks [V.s.inG r.g 1]).2.pat (V.tkP r)) else ((0, (V.mrks [V.s.inG r.g 1]).1), (V.mrks [V.s.inG r.g 1]).2)
theorem mB_b (k i : Int) : ∃ o : Nat, mB k i = (o : Int) ∧ o < 54 := by
  unfold mB
  split
  · rename_i h; exact ⟨_, rfl, pb_lt h⟩
  · exact ⟨0, rfl, by omega⟩
theorem bldPm (x y : Int) (s : Sv) (w : World) : (Instr.build 160 #[(1, .int .i64 x), (2, .int .i64 y), (3, .slice s.a s.n s.c), (4, .int .i64 3)]).run Tryz.prog w = .ok (.agg ((⟨0, x, y, [], 3, [], 0, 0, false⟩ : Pt).cs s Sv.nil).toArray) w := by kernel_rfl
theorem at_bldPm {ops : Array Oper} {rest : List Oper} {o : Oper} {a : Act} {w : World} {Q : Exit → Act → World → Prop} (hw : Region.wanted o (yielded ops a.tmps) = true) (x y z c : Operand) (ho : o.op = .build 160 #[(1, x), (2, y), (3, z), (4, c)]) (i j : Int) (s : Sv) (hx : a.eval x = .int .i64 i) (hy : a.eval y = .int .i64 j) (hz : a.eval z = .slice s.a s.n s.c) (hc : a.eval c = .int .i64 3)
    (h : wpList Tryz.prog ops Q rest (a.put o.dst (.agg ((⟨0, i, j, [], 3, [], 0, 0, false⟩ : Pt).cs s Sv.nil).toArray)) w) : wpList Tryz.prog ops Q (o :: rest) a w := by
  refine op_val hw _ _ ?_ h
  have := bldPm i j s w
  simp only [execOp, ho, Sem.run_bind, List.map_toArray, List.map_cons, List.map_nil, hx, hy, hz, hc, this]; rfl
theorem bsS_one {w : World} {g : Nat} {L : Ld} (h : Row w g L.l) {o : Nat} (ho : o < 54) : BsS w ⟨some ⟨g, o, none⟩, 1, 54 - o⟩ [((L.l.getD o 0).toNat : Int)] := by
  have hl := L.len
  have hm : (54 : Nat) ≤ maxLen := by decide
  have c := h.range o (.int .u8 ((L.l.getD o 0).toNat : Int)) (by
    rw [List.getElem?_map, List.getElem?_eq_getElem (by omega), List.getD_eq_getElem?_getD, List.getElem?_eq_getElem (by omega)]; rfl)
  refine ⟨rfl, by show 1 ≤ 54 - o; omega, by show 54 - o ≤ maxLen; omega, (fun e => by cases e), (fun y hy => by rw [List.mem_singleton] at hy; subst hy; have := (L.l.getD o 0).toNat_lt; omega), fun _ => ⟨g, o, rfl, fun i hi => ?_⟩⟩
  have : i = 0 := by simp only at hi; omega
  subst this
  simpa using c
section
variable {u : World} {A : VA} {V : VZ} {T : Nat → Prop} {t k : Nat}
set_option maxHeartbeats 16000000 in
theorem aset_any (h : Vo u A V T) (ok : VOk t k V) (ht : t + 10 ≤ 8990) (hk : k < 2000) (r : FR) (hr : wfi r.k) :
    Calls Tryz.prog 43 #[.pointer (some ⟨A.v, 0, none⟩), .agg r.cs.toArray, .agg r.m.cs.toArray] u fun e w' => e = .returned (.tuple #[.int .i64 (V.tkS r).1.1, .int .i64 (V.tkS r).1.2]) ∧ VG A (V.tkS r).2 T u w' := by
  have hlt := h.lt
  have hGm := fun w' (b : Below u.heap.size u w') => (h.later b).geom
  have hMp := fun w' => maps_any V.s r.g w'
  have wpl := inG_wf V.s r.g
  unfold VZ.tkS VZ.tkP
  generalize V.s.inG r.g 1 = pl at *
  generalize V.s.herr r.g = e0 at *
  have hMk : ∀ w' (s : Sv), Below u.heap.size u w' → InsS w' s [pl] → InE (fun x => u.heap.size ≤ x) s → Calls Tryz.prog 73 #[.pointer (some ⟨A.v, 0, none⟩), .slice s.a s.n s.c] w' fun e w2 => e = .returned (.int .i64 (V.mrks [pl]).1) ∧ VG A (V.mrks [pl]).2 T w' w2 := fun w' s b hs he => by
    obtain ⟨U, E, F, H, hT⟩ := h.later b
    exact vmarks_any H ok hs he (fun x hx e => by have := hlt x e; omega) (by simp; omega) hT
  have okM : VOk (t + 3) k (V.mrks [pl]).2 := (VOk.mrks [pl] V t ok).mono (by simp) (Nat.le_refl _)
  have hW := fun w' => mwith_any r.m r.k r.i true w' hr
  have hB := fun w' => byte_any r.k r.i w' hr
  obtain ⟨o, ho, ho54⟩ := mB_b r.k r.i
  rw [ho] at hB ⊢
  rw [Int.toNat_natCast]
  generalize mW r.m r.k r.i true = L1 at *
  generalize mE r.k r.i = e2 at *
  obtain ⟨M, hM⟩ : ∃ M, Hid (V.mrks [pl] = M) := ⟨_, rfl⟩
  rw [hM.out] at hMk okM ⊢
  obtain ⟨me, MV⟩ := M
  simp only at hMk okM ⊢
  have hm0 := r.m.len
  have hL1 := L1.len
  obtain ⟨X, hX⟩ : ∃ X, Hid ((if me = 0 then ((MV.patN ⟨0, pl, o, [((L1.l.getD o 0).toNat : Int)], 3, [], 0, 0, false⟩, MV.patE ⟨0, pl, o, [((L1.l.getD o 0).toNat : Int)], 3, [], 0, 0, false⟩), MV.pat ⟨0, pl, o, [((L1.l.getD o 0).toNat : Int)], 3, [], 0, 0, false⟩) else ((0, me), MV)) = X) := ⟨_, rfl⟩
  rw [hX.out]
  clear hM ho
  have h1 := FR.one r
  go_enter Tryz.func43, Tryz.ntmps43
  go_wp2_with (first
    | (refine at_boxC 58 (by rfl) _ (by rfl) r.cs (by rfl) h1 ?_; intro g4 w1 a1 z1 r1 b1)
    | (refine at_box 64 54 arrL (by rfl) _ (by rfl) r.m.l (by rfl) hm0 ?_; intro g5 w2 a2 z2 r2 b2))
  have B2 := bnext b1 b2 (Nat.le_refl _)
  have r12 := r1.later b2
  have q1 := b1.size
  have q2 := b2.size
  clear r1 b1 b2
  refine wp_region_held_drew (S := fun x => Below w2.heap.size w2 x) (by kernel_rfl) (Below.refl _ _).drew (fun hHeld => ?_)
  refine tl 0 (.pointer (some ⟨A.v, 0, none⟩)) rfl ?_
  try simp only [z]
  refine tl 2 (.pointer (some ⟨g4, 1, none⟩)) rfl ?_
  try simp only [z]
  refine tl 3 (.int .i64 r.g) rfl ?_ (fun u hu => by have x1 := (r12.later hu).cell 1 _ rfl; go_simp)
  try simp only [z]
  refine rd 1 rfl (fun K hK => ?_)
  go_simp
  refine (hGm _ (bnext B2 hHeld (Nat.le_refl _))).mono ?_
  rintro e v1 ⟨rfl, c1⟩
  try go_wp2_with fail
  refine hK.out _ _ (bnext hHeld c1 (Nat.le_refl _)) (fun hHeld => ?_)
  clear hK K
  try simp only [z]
  refine rd 4 rfl (fun K hK => ?_)
  go_simp
  refine (hMp _).mono ?_
  rintro e v4 ⟨rfl, c4⟩
  try go_wp2_with fail
  refine hK.out _ _ (bnext hHeld c4 (Nat.le_refl _)) (fun hHeld => ?_)
  clear hK K
  try simp only [z]
  refine tl 5 (.tuple #[.int .i64 pl, .int .i64 e0]) rfl ?_
  try simp only [z]
  refine tl 6 (.int .i64 pl) rfl ?_
  try simp only [z]
  refine tl 7 (.int .i64 e0) rfl ?_
  try simp only [z]
  refine tl 8 (.int .i64 pl) rfl ?_
  try simp only [z]
  refine tl 9 (.int .i64 e0) rfl ?_
  try simp only [z]
  refine wpAnyH_done (by kernel_rfl) ?_ _
  have B4 := bnext B2 hHeld (Nat.le_refl _)
  have r4 := r12.later hHeld
  have l4 := r2.later hHeld
  have q4 := B4.size
  have q4' := hHeld.size
  clear hGm hMp r12 r2 hHeld
  have n4 : ¬ T g4 := fun e => by have := hlt _ e; omega
  have n5 : ¬ T g5 := fun e => by have := hlt _ e; omega
  by_cases h0 : me = 0
  · subst h0
    have hX' : Hid (((MV.patN ⟨0, pl, o, [((L1.l.getD o 0).toNat : Int)], 3, [], 0, 0, false⟩, MV.patE ⟨0, pl, o, [((L1.l.getD o 0).toNat : Int)], 3, [], 0, 0, false⟩), MV.pat ⟨0, pl, o, [((L1.l.getD o 0).toNat : Int)], 3, [], 0, 0, false⟩) = X) := by have := hX.out; rwa [if_pos rfl] at this
    clear hX
    have hPt : ∀ (w13 : World) (T1 : Nat → Prop), Vo w13 A MV T1 → Row w13 g5 L1.l → ¬ T1 g5 → Calls Tryz.prog 75 #[.pointer (some ⟨A.v, 0, none⟩), .agg ((⟨0, pl, o, [], 3, [], 0, 0, false⟩ : Pt).cs ⟨some ⟨g5, o, none⟩, 1, 54 - o⟩ Sv.nil).toArray] w13 fun e w' => e = .returned (.tuple #[.int .i64 (MV.patN ⟨0, pl, o, [((L1.l.getD o 0).toNat : Int)], 3, [], 0, 0, false⟩), .int .i64 (MV.patE ⟨0, pl, o, [((L1.l.getD o 0).toNat : Int)], 3, [], 0, 0, false⟩)]) ∧ VG A (MV.pat ⟨0, pl, o, [((L1.l.getD o 0).toNat : Int)], 3, [], 0, 0, false⟩) T1 w13 w' := fun w13 T1 hv hrow hn => by
      obtain ⟨U, E, F, H, hT⟩ := hv
      exact vpatch_any (X := fun x => x = g5) H okM (by omega) hk hT ⟨0, pl, o, [((L1.l.getD o 0).toNat : Int)], 3, [], 0, 0, false⟩ ⟨some ⟨g5, o, none⟩, 1, 54 - o⟩ Sv.nil ⟨wfi_of (by simp only; omega), wpl, wfi_of (by simp only; omega), wfi_of (by simp only; omega), wfi_of (by simp only; omega), wfi_of (by simp only; omega)⟩ ⟨bsS_one hrow ho54, InsS.nil _, fun ad e h0 => by injection e with e; subst e; rfl, InE.nil _⟩ (fun x hx hf => by subst hx; exact hn ((hT _).2 (.inr (.inr (.inl hf))))) (by simp) (by simp)
    generalize MV.patN ⟨0, pl, o, [((L1.l.getD o 0).toNat : Int)], 3, [], 0, 0, false⟩ = pN at *
    generalize MV.patE ⟨0, pl, o, [((L1.l.getD o 0).toNat : Int)], 3, [], 0, 0, false⟩ = pE at *
    generalize MV.pat ⟨0, pl, o, [((L1.l.getD o 0).toNat : Int)], 3, [], 0, 0, false⟩ = pV at *
    have wo : IntKind.i64.wrap ((o : Int) + 1) = (o : Int) + 1 := by rw [IntKind.wrap_i64]; omega
    clear okM ok
    go_wp2_with (first
      | (refine at_bs1i (by rfl) _ (by rfl) pl (by rfl) wpl ?_; intro g9 w9 a9 i9 b9
         have B9 := bnext B4 b9 (Nat.le_refl _)
         have q9 : u.heap.size ≤ g9 := by omega)
      | (go_at_call 73; refine (hMk _ ⟨some ⟨g9, 0, none⟩, 1, 1⟩ B9 i9 (fun ad e h0 => by injection e with e; subst e; exact q9)).mono ?_; rintro e w10 ⟨rfl, k10⟩; clear hMk
         obtain ⟨T10, H10, s10, g10⟩ := k10
         have r10 := (r4.later b9).step s10 n4
         have l10 := (l4.later b9).step s10 n5
         have d0 := r10.cell 0 _ rfl
         have d2 := r10.cell 2 _ rfl)
      | (refine at_get 64 54 arrL (by rfl) _ (by rfl) g5 (by rfl) _ l10 hm0 ?_)
      | (go_at_call 74; refine (hW _).mono ?_; rintro e w11 ⟨rfl, b11⟩; clear hW d0 d2
         have l11 := l10.later b11
         have r11 := r10.later b11)
      | (refine at_put 64 54 arrL (by rfl) _ _ (by rfl) g5 (by rfl) L1.l (by rfl) hL1 _ l11 hm0 ?_; intro w12 r12 s12
         have r13 := r11.step s12 (fun e => by omega)
         have d0 := r13.cell 0 _ rfl
         have d2 := r13.cell 2 _ rfl)
      | (go_at_call 21; refine (hB _).mono ?_; rintro e w13 ⟨rfl, b13⟩; clear hB d0 d2
         have n10 : ¬ T10 g5 := fun e => by
           rcases g10 _ e with e | e
           · exact n5 e
           · have := b9.size; omega
         have hP := hPt w13 T10 (((H10.later b11).step s12 (fun x hx e => by subst e; exact n10 hx)).later b13) (r12.later b13) n10
         clear hPt)
      | (refine at_subA 64 54 arrL (by rfl) _ _ _ (by rfl) g5 o 1 ((o : Int) + 1) (by rfl) (by rfl) (by rfl) rfl (by omega) (by omega) ?_)
      | (refine at_bldPm (by rfl) _ _ _ _ (by rfl) pl o ⟨some ⟨g5, o, none⟩, 1, 54 - o⟩ (by rfl) (by rfl) (by rfl) (by rfl) ?_)
      | (go_at_call 75; refine hP.mono ?_; rintro e w14 ⟨rfl, k14⟩; clear hP))
    go_returns
    obtain ⟨T14, H14, s14, g14⟩ := k14
    have q10 := s10.size
    have q9' := b9.size
    have q11 := b11.size
    have q12 := s12.size
    have q13 := b13.size
    have S13 : Stp T u w13 := ((((Stp.of_below B9 T).next s10 (fun x hx => .inl hx)).trans (Stp.of_below b11 T)).next s12 (fun x e => .inr (by omega))).trans (Stp.of_below b13 T)
    rw [← hX'.out]
    refine ⟨rfl, T14, H14, S13.next s14 (fun x hx => ?_), fun x hx => ?_⟩
    · rcases g10 x hx with e | e
      · exact .inl e
      · exact .inr (by omega)
    · rcases g14 x hx with e | e
      · rcases g10 x e with e | e
        · exact .inl e
        · exact .inr ⟨by omega, by have := s14.size; omega⟩
      · exact .inr ⟨by omega, e.2⟩
  · have hX' : Hid (((0, me), MV) = X) := by have := hX.out; rwa [if_neg h0] at this
    have d0 : ¬ me = 0 := h0
    clear h0 hW hB hX
    go_wp2_with (first
      | (refine at_bs1i (by rfl) _ (by rfl) pl (by rfl) wpl ?_; intro g9 w9 a9 i9 b9
         have B9 := bnext B4 b9 (Nat.le_refl _)
         have q9 : u.heap.size ≤ g9 := by omega)
      | (go_at_call 73; refine (hMk _ ⟨some ⟨g9, 0, none⟩, 1, 1⟩ B9 i9 (fun ad e h0 => by injection e with e; subst e; exact q9)).mono ?_; rintro e w10 ⟨rfl, k10⟩; clear hMk))
    go_returns
    rw [← hX'.out]
    exact ⟨rfl, VG.from B9 k10⟩
end
set_option maxRecDepth 100000
def VZ.tk (V : VZ) (kd : Int) (g : Nat) : (FR × Int) × VZ :=
  if (V.fst kd g).1.e = 0 then
    (if ((V.fst kd g).2.tkS (V.fst kd g).1).1.2 = 0 then (((V.fst kd g).1, ((V.fst kd g).2.tkS (V.fst kd g).1).1.1), ((V.fst kd g).2.tkS (V.fst kd g).1).2)
     else ((FR.no ((V.fst kd g).2.tkS (V.fst kd g).1).1.2, 0), ((V.fst kd g).2.tkS (V.fst kd g).1).2))
  else ((FR.no (V.fst kd g).1.e, 0), (V.fst kd g).2)
theorem retPtt {fn : Func} {p u v : Tmp} {tmps : Array Value} {w : World} {g T n : Nat} {z cs : List Value} {x y : Value} (hT : Srt T n z) (h : fn.results = #[.cell p T, .tmp u, .tmp v]) (hp : tmps.getD p undef = .pointer (some ⟨g, 0, none⟩)) (hu : tmps.getD u undef = x) (hv : tmps.getD v undef = y) (hR : Cs w g cs) (hl : cs.length = n) : (results fn tmps).run Tryz.prog w = .ok (.tuple #[.agg cs.toArray, x, y]) w := by
  have hp' : tmps[p]?.getD undef = .pointer (some ⟨g, 0, none⟩) := by simpa using hp
  have hu' : tmps[u]?.getD undef = x := by simpa using hu
  have hv' : tmps[v]?.getD undef = y := by simpa using hv
  simp [results, h, hp', hu', hv', asAddr, loadC hT hR hl]
def VZ.blk (V : VZ) (g : Nat) : (Int × Int × Int) × VZ :=
  if (V.tk 0 g).1.1.e = 0 then (((V.tk 0 g).2.s.data (V.tk 0 g).1.1.g (V.tk 0 g).1.1.i, (V.tk 0 g).1.2, 0), (V.tk 0 g).2) else ((0, 0, (V.tk 0 g).1.1.e), (V.tk 0 g).2)
theorem fsN_k (kd : Int) (g0 : Nat) : ∀ (n a : Nat) (V : VZ), (VZ.fsN kd g0 n a V).1.k = kd ∨ (VZ.fsN kd g0 n a V).1.k = 0
  | 0, a, V => .inr rfl
  | n + 1, a, V => by
    unfold VZ.fsN
    split
    · exact fsN_k kd g0 n _ _
    · split
      · split
        · exact .inl rfl
        · exact fsN_k kd g0 n _ _
      · exact .inr rfl
theorem fst_k {V : VZ} {kd : Int} {g : Nat} (h : wfi kd) : wfi (V.fst kd g).1.k := by
  unfold VZ.fst
  rcases fsN_k kd g V.s.g.toNat 0 V with e | e
  · rw [e]; exact h
  · rw [e]; exact wfi_of (by omega)
theorem VOk.fsN {t k : Nat} (kd : Int) (g0 : Nat) : ∀ (n a : Nat) (V : VZ) (t : Nat), VOk t k V → VOk (t + n) k (VZ.fsN kd g0 n a V).2
  | 0, a, V, t, h => h
  | n + 1, a, V, t, h => by
    have h1 := fun x => VOk.fsN (t := t) kd g0 n (a + 1) (V.mlk x) (t + 1) (h.mlk x)
    unfold VZ.fsN
    split
    · exact (h1 _).mono (by omega) (Nat.le_refl _)
    · split
      · split
        · exact (h.mlk _).mono (by omega) (Nat.le_refl _)
        · exact (h1 _).mono (by omega) (Nat.le_refl _)
      · exact (h.mlk _).mono (by omega) (Nat.le_refl _)
section
variable {u : World} {A : VA} {V : VZ} {T : Nat → Prop} {t k : Nat}
theorem VOk.fst (h : VOk t k V) (hs : V.s.g ≤ 8) (kd : Int) (g : Nat) : VOk (t + 8) k (V.fst kd g).2 := (VOk.fsN (t := t) kd g V.s.g.toNat 0 V t h).mono (by omega) (Nat.le_refl _)
set_option maxHeartbeats 16000000 in
theorem atake_any (h : Vo u A V T) (ok : VOk t k V) (ht : t + 20 ≤ 8990) (hk : k < 2000) (kd : Int) (hkd : wfi kd) (g : Nat) (hg : (g : Int) < V.s.g) :
    Calls Tryz.prog 14 #[.pointer (some ⟨A.v, 0, none⟩), .int .i64 kd, .int .i64 (g : Int)] u fun e w' => e = .returned (.tuple #[.agg (V.tk kd g).1.1.cs.toArray, .int .i64 (V.tk kd g).1.2, .int .i64 (V.tk kd g).1.1.e]) ∧ VG A (V.tk kd g).2 T u w' := by
  have hlt := h.lt
  have hGm := fun w' (b : Below u.heap.size u w') => (h.later b).geom
  have hMp := fun w' => maps_any V.s (g : Int) w'
  have hhe : V.s.herr (g : Int) = 0 := if_pos ⟨h.sok, by omega, hg⟩
  rw [hhe] at hMp
  generalize V.s.inG (g : Int) 1 = pl at *
  have hF := fun w' (b : Below u.heap.size u w') => afirst_any (h.later b) ok (by omega) kd hkd g hg
  have hrk := fst_k (V := V) (g := g) hkd
  have okF := ok.fst h.sok.2.1 kd g
  unfold VZ.tk
  obtain ⟨R, hR⟩ : ∃ R, Hid (V.fst kd g = R) := ⟨_, rfl⟩
  rw [hR.out] at hF hrk okF ⊢
  obtain ⟨r, V1⟩ := R
  simp only at hF hrk okF ⊢
  have hS := fun w' T' (h' : Vo w' A V1 T') => aset_any h' okF (by omega) hk r hrk
  have h1 := FR.one r
  have hm := r.m.len
  have t1 : Hid True := trivial
  clear hR hhe
  by_cases h0 : r.e = 0
  · rw [if_pos h0]
    obtain ⟨R2, hR2⟩ : ∃ R, Hid (V1.tkS r = R) := ⟨_, rfl⟩
    rw [hR2.out] at hS ⊢
    obtain ⟨⟨sN, sE⟩, V2⟩ := R2
    simp only at hS ⊢
    rw [h0] at hF
    have fin : ∀ {w1 w3 w4 w8 w9 w10 : World} {gr : Nat} {T4 : Nat → Prop}, Below u.heap.size u w3 → u.heap.size ≤ gr → gr < w3.heap.size → Vo w4 A V1 T4 → Stp T w3 w4 → Grew T T4 w3 w4 → Below w4.heap.size w4 w8 → VG A V2 T4 w8 w9 → Stp (fun y => y = gr) w9 w10 → VG A V2 T u w10 := fun {w1 w3 w4 w8 w9 w10 gr T4} B3 a1 z1 H4 s4 g4 B8 k9 s10 =>
      VG.own hlt B3 a1 z1 (VG.seq (s4.trans (Stp.of_below B8 T)) (fun x hx => (g4 x hx).imp_right (fun e => ⟨e.1, Nat.lt_of_lt_of_le e.2 B8.size⟩)) k9) (Below.refl _ _) s10
    have finS : ∀ {w3 w4 w8 w9 : World} {T4 : Nat → Prop}, Stp T w3 w4 → Grew T T4 w3 w4 → Below w4.heap.size w4 w8 → VG A V2 T4 w8 w9 → Stp T w3 w9 := fun {w3 w4 w8 w9 T4} s4 g4 B8 k9 =>
      (VG.seq (s4.trans (Stp.of_below B8 T)) (fun x hx => (g4 x hx).imp_right (fun e => ⟨e.1, Nat.lt_of_lt_of_le e.2 B8.size⟩)) k9).stp
    by_cases hs : sE = 0
    · subst hs
      rw [if_pos rfl]
      have h0' : Hid (r.e = 0) := h0
      have t2 : Hid True := trivial
      clear h0
      go_enter Tryz.func14, Tryz.ntmps14
      go_wp2_with (first
        | (clear t1; refine at_newC 58 3 _ srtA (by rfl) (by rfl) ?_; intro gr w1 a1 z1 r1 b1)
        | (go_at_call 16; refine (hGm _ b1).mono ?_; rintro e w2 ⟨rfl, b2⟩; clear hGm)
        | (go_at_call 41; refine (hMp _).mono ?_; rintro e w3 ⟨rfl, b3⟩; clear hMp
           have B3 := bnext (bnext b1 b2 (Nat.le_refl _)) b3 (Nat.le_refl _)
           have z3 : gr < w3.heap.size := Nat.lt_of_lt_of_le z1 (Nat.le_trans b2.size b3.size)
           have r3 := (r1.later b2).later b3)
        | (go_at_call 42; refine (hF _ B3).mono ?_; rintro e w4 ⟨rfl, k4⟩; clear hF
           obtain ⟨T4, H4, s4, g4⟩ := k4
           have l4 := H4.lt)
        | (refine at_newC 58 3 _ srtA (by rfl) (by rfl) ?_; intro gp w5 a5 z5 r5 b5)
        | (refine at_new 64 54 arrL (by rfl) (by rfl) ?_; intro gm w6 a6 z6 r6 b6)
        | (refine at_putC 58 3 _ srtA (by rfl) _ _ (by rfl) gp (by rfl) r.cs (by rfl) rfl h1 _ (r5.later b6) (by rfl) ?_; intro w7 r7 s7)
        | (refine at_put 64 54 arrL (by rfl) _ _ (by rfl) gm (by rfl) r.m.l (by rfl) hm _ (r6.step s7 (fun e => by omega)) (by simp) ?_; intro w8 r8 s8
           have c8 := r7.step s8 (fun e => by omega)
           have B8 : Below w4.heap.size w4 w8 := (((Stp.of_below (bnext b5 b6 (Nat.le_refl _)) (fun _ => False)).next s7 (fun x e => .inr (by omega))).next s8 (fun x e => .inr (by have := b5.size; omega))).below (Nat.le_refl _) (fun x e => e.elim)
           clear r5 r6 r7 s7 s8)
        | (refine at_get 64 54 arrL (by rfl) _ (by rfl) gm (by rfl) _ r8 hm ?_)
        | (have _t := t2; refine at_getC 58 3 _ srtA (by rfl) _ (by rfl) gp (by rfl) r.cs c8 rfl ?_)
        | (go_at_call 43; refine (hS w8 T4 (H4.later B8)).mono ?_; rintro e w9 ⟨rfl, k9⟩; clear hS t2
           have c9 := c8.step k9.stp (fun e => by have := l4 _ e; omega)
           have r9 := r3.step (finS s4 g4 B8 k9) (fun e => by have := hlt _ e; omega))
        | (refine at_getC 58 3 _ srtA (by rfl) _ (by rfl) gp (by rfl) r.cs c9 rfl ?_)
        | (refine at_putC 58 3 _ srtA (by rfl) _ _ (by rfl) gr (by rfl) r.cs (by rfl) rfl h1 _ r9 (by rfl) ?_; intro w10 r10 s10))
      refine bodyPost_ret (retPtt srtA Tryz.results14 rfl rfl rfl r10 rfl) rfl ⟨by rw [h0'.out]; rfl, fin (w1 := w3) B3 a1 z3 H4 s4 g4 B8 k9 s10⟩
    · rw [if_neg hs]
      have d0 : ¬ sE = 0 := hs
      have t2 : Hid True := trivial
      clear h0 hs
      go_enter Tryz.func14, Tryz.ntmps14
      go_wp2_with (first
        | (clear t1; refine at_newC 58 3 _ srtA (by rfl) (by rfl) ?_; intro gr w1 a1 z1 r1 b1)
        | (go_at_call 16; refine (hGm _ b1).mono ?_; rintro e w2 ⟨rfl, b2⟩; clear hGm)
        | (go_at_call 41; refine (hMp _).mono ?_; rintro e w3 ⟨rfl, b3⟩; clear hMp
           have B3 := bnext (bnext b1 b2 (Nat.le_refl _)) b3 (Nat.le_refl _)
           have z3 : gr < w3.heap.size := Nat.lt_of_lt_of_le z1 (Nat.le_trans b2.size b3.size)
           have r3 := (r1.later b2).later b3)
        | (go_at_call 42; refine (hF _ B3).mono ?_; rintro e w4 ⟨rfl, k4⟩; clear hF
           obtain ⟨T4, H4, s4, g4⟩ := k4
           have l4 := H4.lt)
        | (refine at_newC 58 3 _ srtA (by rfl) (by rfl) ?_; intro gp w5 a5 z5 r5 b5)
        | (refine at_new 64 54 arrL (by rfl) (by rfl) ?_; intro gm w6 a6 z6 r6 b6)
        | (refine at_putC 58 3 _ srtA (by rfl) _ _ (by rfl) gp (by rfl) r.cs (by rfl) rfl h1 _ (r5.later b6) (by rfl) ?_; intro w7 r7 s7)
        | (refine at_put 64 54 arrL (by rfl) _ _ (by rfl) gm (by rfl) r.m.l (by rfl) hm _ (r6.step s7 (fun e => by omega)) (by simp) ?_; intro w8 r8 s8
           have c8 := r7.step s8 (fun e => by omega)
           have B8 : Below w4.heap.size w4 w8 := (((Stp.of_below (bnext b5 b6 (Nat.le_refl _)) (fun _ => False)).next s7 (fun x e => .inr (by omega))).next s8 (fun x e => .inr (by have := b5.size; omega))).below (Nat.le_refl _) (fun x e => e.elim)
           clear r5 r6 r7 s7 s8)
        | (refine at_get 64 54 arrL (by rfl) _ (by rfl) gm (by rfl) _ r8 hm ?_)
        | (have _t := t2; refine at_getC 58 3 _ srtA (by rfl) _ (by rfl) gp (by rfl) r.cs c8 rfl ?_)
        | (go_at_call 43; refine (hS w8 T4 (H4.later B8)).mono ?_; rintro e w9 ⟨rfl, k9⟩; clear hS t2
           have c9 := c8.step k9.stp (fun e => by have := l4 _ e; omega)
           have r9 := r3.step (finS s4 g4 B8 k9) (fun e => by have := hlt _ e; omega))
        | (refine at_bldA0 (by rfl) (by rfl) ?_)
        | (refine at_putC 58 3 _ srtA (by rfl) _ _ (by rfl) gr (by rfl) (FR.no 0).cs (by rfl) rfl (FR.one _) _ r9 (by rfl) ?_; intro w10 r10 s10))
      refine bodyPost_ret (retPtt srtA Tryz.results14 rfl rfl rfl r10 rfl) rfl ⟨rfl, fin (w1 := w3) B3 a1 z3 H4 s4 g4 B8 k9 s10⟩
  · rw [if_neg h0]
    have d0 : ¬ r.e = 0 := h0
    clear h0 hS
    go_enter Tryz.func14, Tryz.ntmps14
    go_wp2_with (first
      | (clear t1; refine at_newC 58 3 _ srtA (by rfl) (by rfl) ?_; intro gr w1 a1 z1 r1 b1)
      | (go_at_call 16; refine (hGm _ b1).mono ?_; rintro e w2 ⟨rfl, b2⟩; clear hGm)
      | (go_at_call 41; refine (hMp _).mono ?_; rintro e w3 ⟨rfl, b3⟩; clear hMp
         have B3 := bnext (bnext b1 b2 (Nat.le_refl _)) b3 (Nat.le_refl _)
         have z3 : gr < w3.heap.size := Nat.lt_of_lt_of_le z1 (Nat.le_trans b2.size b3.size)
         have r3 := (r1.later b2).later b3)
      | (go_at_call 42; refine (hF _ B3).mono ?_; rintro e w4 ⟨rfl, k4⟩; clear hF
         obtain ⟨T4, H4, s4, g4⟩ := k4
         have l4 := H4.lt)
      | (refine at_newC 58 3 _ srtA (by rfl) (by rfl) ?_; intro gp w5 a5 z5 r5 b5)
      | (refine at_new 64 54 arrL (by rfl) (by rfl) ?_; intro gm w6 a6 z6 r6 b6)
      | (refine at_putC 58 3 _ srtA (by rfl) _ _ (by rfl) gp (by rfl) r.cs (by rfl) rfl h1 _ (r5.later b6) (by rfl) ?_; intro w7 r7 s7)
      | (refine at_put 64 54 arrL (by rfl) _ _ (by rfl) gm (by rfl) r.m.l (by rfl) hm _ (r6.step s7 (fun e => by omega)) (by simp) ?_; intro w8 r8 s8
         have c8 := r7.step s8 (fun e => by omega)
         have B8 : Below w4.heap.size w4 w8 := (((Stp.of_below (bnext b5 b6 (Nat.le_refl _)) (fun _ => False)).next s7 (fun x e => .inr (by omega))).next s8 (fun x e => .inr (by have := b5.size; omega))).below (Nat.le_refl _) (fun x e => e.elim)
         clear r5 r6 r7 s7 s8)
      | (refine at_bldA0 (by rfl) (by rfl) ?_)
      | (refine at_putC 58 3 _ srtA (by rfl) _ _ (by rfl) gr (by rfl) (FR.no 0).cs (by rfl) rfl (FR.one _) _ ((r3.step s4 (fun e => by have := hlt _ e; omega)).later B8) (by rfl) ?_; intro w10 r10 s10))
    refine bodyPost_ret (retPtt srtA Tryz.results14 rfl rfl rfl r10 rfl) rfl ⟨rfl, VG.own hlt B3 a1 z3 ⟨T4, H4, s4, g4⟩ B8 s10⟩
end
set_option maxRecDepth 100000
def VZ.fre (V : VZ) (k g i : Int) : Bool := if mE k i = 0 then (if V.mlE g = 0 then (m1 (V.mlB g) V.s k i == i) else false) else false
def VZ.frV (V : VZ) (k g i : Int) : VZ := if mE k i = 0 then V.mlk g else V
section
variable {u : World} {A : VA} {V : VZ} {T : Nat → Prop} {t k : Nat}
set_option maxHeartbeats 16000000 in
theorem ablock_any (h : Vo u A V T) (ok : VOk t k V) (ht : t + 20 ≤ 8990) (hk : k < 2000) (g : Nat) (hg : (g : Int) < V.s.g) :
    Calls Tryz.prog 5 #[.pointer (some ⟨A.v, 0, none⟩), .int .i64 (g : Int)] u fun e w' => e = .returned (.tuple #[.int .i64 (V.blk g).1.1, .int .i64 (V.blk g).1.2.1, .int .i64 (V.blk g).1.2.2]) ∧ VG A (V.blk g).2 T u w' := by
  have hTk := atake_any h ok ht hk 0 (wfi_of (by omega)) g hg
  unfold VZ.blk
  obtain ⟨R, hR⟩ : ∃ R, Hid (V.tk 0 g = R) := ⟨_, rfl⟩
  rw [hR.out] at hTk ⊢
  obtain ⟨⟨r, id⟩, V1⟩ := R
  simp only at hTk ⊢
  have h1 := FR.one r
  have hD := fun w' => data_any V1.s r.g r.i w'
  generalize V1.s.data r.g r.i = ds at *
  generalize V1.s.derr r.g r.i = de at *
  clear hR
  by_cases h0 : r.e = 0
  · rw [if_pos h0]
    rw [h0] at hTk
    clear h0
    go_enter Tryz.func5, Tryz.ntmps5
    go_wp2_with (first
      | (go_at_call 14; refine hTk.mono ?_; rintro e w1 ⟨rfl, k1⟩; clear hTk)
      | (refine at_newC 58 3 _ srtA (by rfl) (by rfl) ?_; intro gp w2 a2 z2 r2 b2)
      | (refine at_putC 58 3 _ srtA (by rfl) _ _ (by rfl) gp (by rfl) r.cs (by rfl) rfl h1 _ r2 (by rfl) ?_; intro w3 r3 s3))
    have B3 : Below w1.heap.size w1 w3 := ((Stp.of_below b2 (fun _ => False)).next s3 (fun x e => .inr (by omega))).below (Nat.le_refl _) (fun x e => e.elim)
    obtain ⟨T1, H1, s1, g1⟩ := k1
    have H3 := H1.later B3
    clear r2 s3 b2
    refine wp_region_held_drew (S := fun x => Below w3.heap.size w3 x) (by kernel_rfl) (Below.refl _ _).drew (fun hHeld => ?_)
    refine tl 0 (.pointer (some ⟨A.v, 0, none⟩)) rfl ?_
    try simp only [z]
    refine tl 2 (.pointer (some ⟨gp, 1, none⟩)) rfl ?_
    try simp only [z]
    refine tl 3 (.int .i64 r.g) rfl ?_ (fun u hu => by have x1 := (r3.later hu).cell 1 _ rfl; go_simp)
    try simp only [z]
    refine tl 4 (.pointer (some ⟨gp, 2, none⟩)) rfl ?_
    try simp only [z]
    refine tl 5 (.int .i64 r.i) rfl ?_ (fun u hu => by have x1 := (r3.later hu).cell 2 _ rfl; go_simp)
    try simp only [z]
    refine rd 1 rfl (fun K hK => ?_)
    go_simp
    refine (H3.later hHeld).geom.mono ?_
    rintro e v1 ⟨rfl, c1⟩
    try go_wp2_with fail
    refine hK.out _ _ (bnext hHeld c1 (Nat.le_refl _)) (fun hHeld => ?_)
    clear hK K
    try simp only [z]
    refine rd 6 rfl (fun K hK => ?_)
    go_simp
    refine (hD _).mono ?_
    rintro e v6 ⟨rfl, c6⟩
    try go_wp2_with fail
    refine hK.out _ _ (bnext hHeld c6 (Nat.le_refl _)) (fun hHeld => ?_)
    clear hK K
    try simp only [z]
    refine tl 7 (.tuple #[.int .i64 ds, .int .i64 de]) rfl ?_
    try simp only [z]
    refine tl 8 (.int .i64 ds) rfl ?_
    try simp only [z]
    refine tl 9 (.int .i64 de) rfl ?_
    try simp only [z]
    refine tl 10 (.int .i64 ds) rfl ?_
    try simp only [z]
    refine tl 11 (.int .i64 de) rfl ?_
    try simp only [z]
    refine wpAnyH_done (by kernel_rfl) ?_ _
    go_wp2_with fail
    go_returns
    exact ⟨rfl, VG.then ⟨T1, H1, s1, g1⟩ (bnext B3 hHeld (Nat.le_refl _))⟩
  · rw [if_neg h0]
    have d0 : ¬ r.e = 0 := h0
    clear h0 hD
    go_enter Tryz.func5, Tryz.ntmps5
    go_wp2_with (first
      | (go_at_call 14; refine hTk.mono ?_; rintro e w1 ⟨rfl, k1⟩; clear hTk)
      | (refine at_newC 58 3 _ srtA (by rfl) (by rfl) ?_; intro gp w2 a2 z2 r2 b2)
      | (refine at_putC 58 3 _ srtA (by rfl) _ _ (by rfl) gp (by rfl) r.cs (by rfl) rfl h1 _ r2 (by rfl) ?_; intro w3 r3 s3))
    go_returns
    have B3 : Below w1.heap.size w1 w3 := ((Stp.of_below b2 (fun _ => False)).next s3 (fun x e => .inr (by omega))).below (Nat.le_refl _) (fun x e => e.elim)
    exact ⟨rfl, k1.then B3⟩
set_option maxHeartbeats 16000000 in
theorem afree_any (h : Vo u A V T) (ok : VOk t k V) (ht : t ≤ 8990) (kd g i : Int) (hk : wfi kd) (hi : wfi i) :
    Calls Tryz.prog 9 #[.pointer (some ⟨A.v, 0, none⟩), .int .i64 kd, .int .i64 g, .int .i64 i] u fun e w' => e = .returned (.bool (V.fre kd g i)) ∧ VG A (V.frV kd g i) T u w' := by
  have hB := fun w' => byte_any kd i w' hk
  have hL := fun w' (b : Below u.heap.size u w') => aload_any (h.later b) ok ht g
  have hs := mlk_s V g
  unfold VZ.fre VZ.frV
  generalize mB kd i = mb at *
  obtain ⟨e0, he0⟩ : ∃ e, Hid (mE kd i = e) := ⟨_, rfl⟩
  rw [he0.out] at hB ⊢
  obtain ⟨e1, he1⟩ : ∃ e, Hid (V.mlE g = e) := ⟨_, rfl⟩
  rw [he1.out] at hL ⊢
  generalize V.mlk g = V1 at *
  have hF := fun w' => mfirst_any (V.mlB g) V.s kd i w' hk hi
  generalize V.mlB g = L0 at *
  generalize m1 L0 V.s kd i = f1 at *
  have hL0 := L0.len
  clear he0 he1
  by_cases h0 : e0 = 0
  · subst h0
    rw [if_pos rfl, if_pos rfl]
    by_cases h1 : e1 = 0
    · subst h1
      rw [if_pos rfl]
      go_enter Tryz.func9, Tryz.ntmps9
      go_wp2_with (first
        | (go_at_call 21; refine (hB _).mono ?_; rintro e w1 ⟨rfl, b1⟩; clear hB)
        | (go_at_call 18; refine (hL _ b1).mono ?_; rintro e w2 ⟨rfl, k2⟩; clear hL)
        | (refine at_new 64 54 arrL (by rfl) (by rfl) ?_; intro gm w3 a3 z3 r3 b3)
        | (refine at_put 64 54 arrL (by rfl) _ _ (by rfl) gm (by rfl) L0.l (by rfl) hL0 _ r3 (by simp) ?_; intro w4 r4 s4))
      have B4 : Below w2.heap.size w2 w4 := ((Stp.of_below b3 (fun _ => False)).next s4 (fun x e => .inr (by omega))).below (Nat.le_refl _) (fun x e => e.elim)
      obtain ⟨T2, H2, s2, g2⟩ := k2
      have H4 := H2.later B4
      clear r3 s4 b3
      refine wp_region_held_drew (S := fun x => Below w4.heap.size w4 x) (by kernel_rfl) (Below.refl _ _).drew (fun hHeld => ?_)
      refine tl 0 (.int .i64 0) rfl ?_
      try simp only [z]
      refine tl 1 (.bool true) rfl ?_
      try simp only [z]
      refine tl 2 (.bool true) rfl ?_
      try simp only [z]
      refine tm 3 (.agg L0.cs.toArray) rfl
        (yields_row 64 54 arrL (by rfl) (.tmp 11) rfl gm (by rfl) L0.l hL0 (fun u hu => r4.later hu)) ?_
      try simp only [z]
      refine tl 4 (.pointer (some ⟨A.v, 0, none⟩)) rfl ?_
      try simp only [z]
      refine tl 6 (.int .i64 kd) rfl ?_
      try simp only [z]
      refine tl 7 (.int .i64 i) rfl ?_
      try simp only [z]
      refine tl 9 (.int .i64 i) rfl ?_
      try simp only [z]
      refine rd 5 rfl (fun K hK => ?_)
      go_simp
      refine (H4.later hHeld).geom.mono ?_
      rintro e v5 ⟨rfl, c5⟩
      rw [hs]
      try go_wp2_with fail
      refine hK.out _ _ (bnext hHeld c5 (Nat.le_refl _)) (fun hHeld => ?_)
      clear hK K
      try simp only [z]
      refine rd 8 rfl (fun K hK => ?_)
      go_simp
      refine (hF _).mono ?_
      rintro e v8 ⟨rfl, c8⟩
      try go_wp2_with fail
      refine hK.out _ _ (bnext hHeld c8 (Nat.le_refl _)) (fun hHeld => ?_)
      clear hK K
      try simp only [z]
      refine tl 10 (.bool (f1 == i)) rfl ?_
      try simp only [z]
      refine tl 11 (.bool (f1 == i)) rfl ?_
      try simp only [z]
      refine tl 12 (.bool (f1 == i)) rfl ?_
      try simp only [z]
      refine wpAnyH_done (by kernel_rfl) ?_ _
      go_wp2_with fail
      go_returns
      exact ⟨rfl, VG.from b1 (VG.then ⟨T2, H2, s2, g2⟩ (bnext B4 hHeld (Nat.le_refl _)))⟩
    · rw [if_neg h1]
      have hd : decide (e1 = 0) = false := by simp [h1]
      clear hF
      go_enter Tryz.func9, Tryz.ntmps9
      go_wp2_with (first
        | (go_at_call 21; refine (hB _).mono ?_; rintro e w1 ⟨rfl, b1⟩; clear hB)
        | (go_at_call 18; refine (hL _ b1).mono ?_; rintro e w2 ⟨rfl, k2⟩; clear hL)
        | (refine at_new 64 54 arrL (by rfl) (by rfl) ?_; intro gm w3 a3 z3 r3 b3)
        | (refine at_put 64 54 arrL (by rfl) _ _ (by rfl) gm (by rfl) L0.l (by rfl) hL0 _ r3 (by simp) ?_; intro w4 r4 s4))
      have B4 : Below w2.heap.size w2 w4 := ((Stp.of_below b3 (fun _ => False)).next s4 (fun x e => .inr (by omega))).below (Nat.le_refl _) (fun x e => e.elim)
      clear r3 r4 s4 b3
      go_quiet (fail)
      go_wp2_with fail
      go_returns
      exact ⟨rfl, VG.from b1 (k2.then (bnext B4 (((Stp.refl (fun _ => False) w4).drewN _).below (Nat.le_refl _) (fun _ h => h.elim)) (Nat.le_refl _)))⟩
  · rw [if_neg h0, if_neg h0]
    have d0 : ¬ e0 = 0 := h0
    clear hF hL h0
    go_enter Tryz.func9, Tryz.ntmps9
    go_wp2_with (first
      | (go_at_call 21; refine (hB _).mono ?_; rintro e w1 ⟨rfl, b1⟩; clear hB))
    go_returns
    exact ⟨rfl, VG.low h b1⟩
end
set_option maxRecDepth 1000000
section
variable {V : VZ} {t k : Nat}
theorem VOk.tkS (h : VOk t k V) (r : FR) : VOk (t + 6) (k + 1) (V.tkS r).2 := by
  have h1 : VOk (t + 3) k (V.mrks [V.s.inG r.g 1]).2 := (VOk.mrks [V.s.inG r.g 1] V t h).mono (by simp) (Nat.le_refl _)
  unfold VZ.tkS
  split
  · exact (h1.pat (V.tkP r) (by simp [VZ.tkP])).mono (by omega) (Nat.le_refl _)
  · exact h1.mono (by omega) (by omega)
theorem VOk.tk (h : VOk t k V) (hs : V.s.g ≤ 8) (kd : Int) (g : Nat) : VOk (t + 14) (k + 1) (V.tk kd g).2 := by
  have h1 := h.fst hs kd g
  unfold VZ.tk
  split
  · split
    · exact (h1.tkS _).mono (by omega) (Nat.le_refl _)
    · exact (h1.tkS _).mono (by omega) (Nat.le_refl _)
  · exact h1.mono (by omega) (by omega)
theorem VOk.blk (h : VOk t k V) (hs : V.s.g ≤ 8) (g : Nat) : VOk (t + 14) (k + 1) (V.blk g).2 := by
  unfold VZ.blk
  split
  · exact h.tk hs 0 g
  · exact h.tk hs 0 g
end
def xV : VZ := (wV0.blk 0).2
theorem x_g : ((0 : Nat) : Int) < wV0.s.g := by decide +kernel
theorem x_8 : wV0.s.g ≤ 8 := by decide +kernel
theorem x_s : (wV0.blk 0).1.1 = 5 := by decide +kernel
theorem x_n : (wV0.blk 0).1.2.1 = 1 := by decide +kernel
theorem x_e : (wV0.blk 0).1.2.2 = 0 := by decide +kernel
theorem x_d : wV0.s.data 0 0 = 5 := by decide +kernel
theorem x_f : xV.fre 0 0 0 = false := by decide +kernel
theorem x_ok : VOk 17 1 xV := w_ok0.blk x_8 0
end Go.Proofs.YtennaimdffohfaaGreatDoor
