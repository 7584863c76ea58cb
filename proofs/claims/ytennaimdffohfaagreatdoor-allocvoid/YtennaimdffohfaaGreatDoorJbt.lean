/-
  Texts of my own, joined: no statement is proved here.
-/
import Derived.Test.YtennaimdffohfaaGreatDoorJbr
import Derived.Test.YtennaimdffohfaaGreatDoorJbs
set_option linter.unusedSimpArgs false
set_option linter.unusedVariables false
namespace Go.Proofs.YtennaimdffohfaaGreatDoor
open Go.ChangeShapes Go.WideShapes Go.ChangeAt Go.RowKit
set_option maxRecDepth 100000
def VZ.ldE (V : VZ) (i k : Int) : Int := if V.nowE i = 0 then (if gES k (V.nowB i) = 0 then 0 else 21) else V.nowE i
def VZ.ldB (V : VZ) (i k : Int) : Ld := if V.nowE i = 0 then (if gES k (V.nowB i) = 0 then gP k (V.nowB i) else Ld.zero) else Ld.zero
section
variable {u : World} {A : VA} {V V' : VZ} {T : Nat → Prop} {t k : Nat}
theorem VG.own {w1 w2 w7 w9 : World} {g : Nat} (hlt : ∀ x, T x → x < u.heap.size) (b1 : Below u.heap.size u w1) (hg : u.heap.size ≤ g) (hg1 : g < w1.heap.size) (k : VG A V' T w1 w2) (B : Below w2.heap.size w2 w7) (s : Stp (fun x => x = g) w7 w9) : VG A V' T u w9 := by
  obtain ⟨T', H, s2, g2⟩ := k
  refine ⟨T', (H.later B).step s (fun x hx e => ?_), ((((Stp.of_below b1 T).trans s2).trans (Stp.of_below B T)).next s (fun x e => .inr (by omega))), fun x hx => ?_⟩
  · subst e
    rcases g2 x hx with e | e
    · have := hlt x e; omega
    · omega
  · rcases g2 x hx with e | e
    · exact .inl e
    · exact .inr ⟨Nat.le_trans b1.size e.1, Nat.lt_of_lt_of_le e.2 (Nat.le_trans B.size s.size)⟩
set_option maxHeartbeats 4000000 in
theorem vload_any (h : Vo u A V T) (ok : VOk t k V) (ht : t ≤ 8990) (i kd : Int) (hi : wfi i) :
    Calls Tryz.prog 48 #[.pointer (some ⟨A.v, 0, none⟩), .int .i64 i, .int .i64 kd] u fun e w' => e = .returned (.tuple #[.agg (V.ldB i kd).cs.toArray, .int .i64 (V.ldE i kd)]) ∧ VG A (V.look i) T u w' := by
  have hN : ∀ w', Below u.heap.size u w' → Calls Tryz.prog 77 #[.pointer (some ⟨A.v, 0, none⟩), .int .i64 i] w' fun e w2 => e = .returned (.tuple #[.agg (V.nowB i).cs.toArray, .int .i64 (V.nowE i)]) ∧ VG A (V.look i) T w' w2 := fun w' b => by
    obtain ⟨U, E, F, H, hT⟩ := h.later b
    exact vnow_any H ok ht i hi hT
  have hlt := h.lt
  unfold VZ.ldE VZ.ldB
  generalize V.nowB i = B0 at *
  generalize V.nowE i = e1 at *
  have t1 : Hid True := trivial
  have hFin : ∀ {w1 w2 w3 w4 w9 : World} {gr gb : Nat}, Below u.heap.size u w1 → VG A (V.look i) T w1 w2 → Below w2.heap.size w2 w3 → w2.heap.size ≤ gb → Stp (fun y => y = gb) w3 w4 → u.heap.size ≤ gr → gr < w1.heap.size → Stp (fun y => y = gr) w4 w9 → VG A (V.look i) T u w9 := fun b1 k2 b3 hb s4 a1 z1 s9 => VG.own hlt b1 a1 z1 k2 (((Stp.of_below b3 (fun _ => False)).next s4 (fun x e => .inr (by omega))).below (Nat.le_refl _) (fun x e => e.elim)) s9
  have hB := B0.len
  by_cases he : e1 = 0
  · subst he
    rw [if_pos rfl, if_pos rfl]
    have hGB := fun w' => get_anyS kd B0 w'
    by_cases hg : gES kd B0 = 0
    · rw [if_pos hg, if_pos hg]
      rw [hg] at hGB
      have hL := (gP kd B0).len
      generalize gP kd B0 = L0 at *
      generalize gT kd B0 = T0 at *
      clear hg
      go_enter Tryz.func48, Tryz.ntmps48
      go_wp2_with (first
        | (clear t1; refine at_new 64 54 arrL (by rfl) (by rfl) ?_; intro gr w1 a1 z1 r1 b1)
        | (go_at_call 77; refine (hN _ b1).mono ?_; rintro e w2 ⟨rfl, k2⟩; clear hN
           have s2 := k2.stp
           have r2 := r1.step s2 (fun e => by have := hlt _ e; omega))
        | (refine at_new 95 64 arrB (by rfl) (by rfl) ?_; intro gb w3 a3 z3 r3 b3)
        | (refine at_put 95 64 arrB (by rfl) _ _ (by rfl) gb (by rfl) B0.l (by rfl) hB _ r3 (by simp) ?_; intro w4 r4 s4)
        | (refine at_get 95 64 arrB (by rfl) _ (by rfl) gb (by rfl) _ r4 hB ?_)
        | (go_at_call 78; refine (hGB _).mono ?_; rintro e w5 ⟨rfl, b5⟩; clear hGB)
        | (refine at_new 64 54 arrL (by rfl) (by rfl) ?_; intro gl w6 a6 z6 r6 b6)
        | (refine at_put 64 54 arrL (by rfl) _ _ (by rfl) gl (by rfl) L0.l (by rfl) hL _ r6 (by simp) ?_; intro w7 r7 s7
           have r8 : Row w7 gr _ := ((((r2.later b3).step s4 (fun e => by have := s2.size; omega)).later b5).later b6).step s7 (fun e => by have := s2.size; have := b3.size; have := s4.size; have := b5.size; omega))
        | (refine at_get 64 54 arrL (by rfl) _ (by rfl) gl (by rfl) _ r7 hL ?_)
        | (refine at_put 64 54 arrL (by rfl) _ _ (by rfl) gr (by rfl) L0.l (by rfl) hL _ r8 (by simp) ?_; intro w9 r9 s9))
      have k3 := b3.size
      have k4 := s4.size
      have k5 := b5.size
      have k6 := b6.size
      have B6 : Below w2.heap.size w2 w6 := ((Stp.of_below b3 (fun _ => False)).next s4 (fun x e => .inr (by omega))).trans (Stp.of_below (bnext b5 b6 (Nat.le_refl _)) _) |>.below (Nat.le_refl _) (fun _ h => h.elim)
      exact bodyPost_ret (retAt arrL Tryz.results48 rfl rfl r9 hL) rfl ⟨rfl, hFin b1 k2 B6 (by omega) s7 a1 z1 s9⟩
    · rw [if_neg hg, if_neg hg]
      have hL := (gP kd B0).len
      have hZ := Ld.zero.len
      obtain ⟨e2, he2⟩ : ∃ e, Hid (gES kd B0 = e) := ⟨_, rfl⟩
      rw [he2.out] at hGB hg
      have hd0 : ¬ e2 = 0 := hg
      generalize gP kd B0 = L0 at *
      generalize gT kd B0 = T0 at *
      clear he2 hg
      go_enter Tryz.func48, Tryz.ntmps48
      go_wp2_with (first
        | (clear t1; refine at_new 64 54 arrL (by rfl) (by rfl) ?_; intro gr w1 a1 z1 r1 b1)
        | (go_at_call 77; refine (hN _ b1).mono ?_; rintro e w2 ⟨rfl, k2⟩; clear hN
           have s2 := k2.stp
           have r2 := r1.step s2 (fun e => by have := hlt _ e; omega))
        | (refine at_new 95 64 arrB (by rfl) (by rfl) ?_; intro gb w3 a3 z3 r3 b3)
        | (refine at_put 95 64 arrB (by rfl) _ _ (by rfl) gb (by rfl) B0.l (by rfl) hB _ r3 (by simp) ?_; intro w4 r4 s4)
        | (refine at_get 95 64 arrB (by rfl) _ (by rfl) gb (by rfl) _ r4 hB ?_)
        | (go_at_call 78; refine (hGB _).mono ?_; rintro e w5 ⟨rfl, b5⟩; clear hGB)
        | (refine at_new 64 54 arrL (by rfl) (by rfl) ?_; intro gl w6 a6 z6 r6 b6)
        | (refine at_put 64 54 arrL (by rfl) _ _ (by rfl) gl (by rfl) L0.l (by rfl) hL _ r6 (by simp) ?_; intro w7 r7 s7
           have r8 : Row w7 gr _ := ((((r2.later b3).step s4 (fun e => by have := s2.size; omega)).later b5).later b6).step s7 (fun e => by have := s2.size; have := b3.size; have := s4.size; have := b5.size; omega))
        | (refine at_bldL (by rfl) (by rfl) ?_)
        | (refine at_put 64 54 arrL (by rfl) _ _ (by rfl) gr (by rfl) Ld.zero.l (by rfl) hZ _ r8 (by simp) ?_; intro w9 r9 s9))
      have k3 := b3.size
      have k4 := s4.size
      have k5 := b5.size
      have k6 := b6.size
      have B6 : Below w2.heap.size w2 w6 := ((Stp.of_below b3 (fun _ => False)).next s4 (fun x e => .inr (by omega))).trans (Stp.of_below (bnext b5 b6 (Nat.le_refl _)) _) |>.below (Nat.le_refl _) (fun _ h => h.elim)
      exact bodyPost_ret (retAt arrL Tryz.results48 rfl rfl r9 hZ) rfl ⟨rfl, hFin b1 k2 B6 (by omega) s7 a1 z1 s9⟩
  · rw [if_neg he, if_neg he]
    have hd0 : ¬ e1 = 0 := he
    have hZ := Ld.zero.len
    clear he
    go_enter Tryz.func48, Tryz.ntmps48
    go_wp2_with (first
      | (clear t1; refine at_new 64 54 arrL (by rfl) (by rfl) ?_; intro gr w1 a1 z1 r1 b1)
      | (go_at_call 77; refine (hN _ b1).mono ?_; rintro e w2 ⟨rfl, k2⟩; clear hN
         have s2 := k2.stp
         have r2 := r1.step s2 (fun e => by have := hlt _ e; omega))
      | (refine at_new 95 64 arrB (by rfl) (by rfl) ?_; intro gb w3 a3 z3 r3 b3)
      | (refine at_put 95 64 arrB (by rfl) _ _ (by rfl) gb (by rfl) B0.l (by rfl) hB _ r3 (by simp) ?_; intro w4 r4 s4
         have r8 : Row w4 gr _ := (r2.later b3).step s4 (fun e => by have := s2.size; omega))
      | (refine at_bldL (by rfl) (by rfl) ?_)
      | (refine at_put 64 54 arrL (by rfl) _ _ (by rfl) gr (by rfl) Ld.zero.l (by rfl) hZ _ r8 (by simp) ?_; intro w9 r9 s9))
    exact bodyPost_ret (retAt arrL Tryz.results48 rfl rfl r9 hZ) rfl ⟨rfl, hFin b1 k2 b3 a3 s4 a1 z1 s9⟩
end
set_option maxRecDepth 100000
def VZ.mlE (V : VZ) (g : Int) : Int := if V.s.herr g = 0 then V.ldE (V.s.inG g 1) 3 else V.s.herr g
def VZ.mlB (V : VZ) (g : Int) : Ld := if V.s.herr g = 0 then V.ldB (V.s.inG g 1) 3 else Ld.zero
def VZ.mlk (V : VZ) (g : Int) : VZ := if V.s.herr g = 0 then V.look (V.s.inG g 1) else V
structure FR where
  e : Int
  k : Int
  g : Int
  i : Int
  m : Ld
def FR.no (e : Int) : FR := ⟨e, 0, 0, 0, Ld.zero⟩
abbrev FR.cs (r : FR) : List Value := [.int .i64 r.k, .int .i64 r.g, .int .i64 r.i]
def VZ.fsN (kd : Int) (g0 : Nat) : Nat → Nat → VZ → FR × VZ
  | 0, _, V => (FR.no 30, V)
  | n + 1, a, V =>
    if V.mlE (((g0 + a) % V.s.g.toNat : Nat) : Int) = 21 then VZ.fsN kd g0 n (a + 1) (V.mlk (((g0 + a) % V.s.g.toNat : Nat) : Int))
    else if V.mlE (((g0 + a) % V.s.g.toNat : Nat) : Int) = 0 then
      (if 0 ≤ m1 (V.mlB (((g0 + a) % V.s.g.toNat : Nat) : Int)) V.s kd 0 then (⟨0, kd, (((g0 + a) % V.s.g.toNat : Nat) : Int), m1 (V.mlB (((g0 + a) % V.s.g.toNat : Nat) : Int)) V.s kd 0, V.mlB (((g0 + a) % V.s.g.toNat : Nat) : Int)⟩, V.mlk (((g0 + a) % V.s.g.toNat : Nat) : Int))
       else VZ.fsN kd g0 n (a + 1) (V.mlk (((g0 + a) % V.s.g.toNat : Nat) : Int)))
    else (FR.no (V.mlE (((g0 + a) % V.s.g.toNat : Nat) : Int)), V.mlk (((g0 + a) % V.s.g.toNat : Nat) : Int))
theorem mlk_s (V : VZ) (g : Int) : (V.mlk g).s = V.s := by unfold VZ.mlk; split <;> rfl
theorem inG_wf (s : Gm) (g : Int) : wfi (s.inG g 1) := by
  have h := inG_b s g
  have : 0 ≤ s.inG g 1 ∧ s.inG g 1 ≤ 2001 := by
    by_cases hh : s.has g
    · rw [inG_yes hh]; omega
    · rw [inG_no hh]; omega
  exact wfi_of (by omega)
section
variable {u : World} {A : VA} {V : VZ} {T : Nat → Prop} {t k : Nat}
theorem VOk.mlk (h : VOk t k V) (g : Int) : VOk (t + 1) k (V.mlk g) := by
  unfold VZ.mlk
  split
  · exact h.look _
  · exact h.mono (by omega) (Nat.le_refl _)
theorem Vo.geom (h : Vo u A V T) : Calls Tryz.prog 16 #[.pointer (some ⟨A.v, 0, none⟩)] u fun e w' => e = .returned (gv V.s) ∧ Below u.heap.size u w' := by
  obtain ⟨U, E, F, H, _⟩ := h
  exact vgeom_any H
theorem Vo.sok (h : Vo u A V T) : V.s.ok := by
  obtain ⟨U, E, F, H, _⟩ := h
  exact H.so
set_option maxHeartbeats 4000000 in
theorem aload_any (h : Vo u A V T) (ok : VOk t k V) (ht : t ≤ 8990) (g : Int) :
    Calls Tryz.prog 18 #[.pointer (some ⟨A.v, 0, none⟩), .int .i64 g] u fun e w' => e = .returned (.tuple #[.agg (V.mlB g).cs.toArray, .int .i64 (V.mlE g)]) ∧ VG A (V.mlk g) T u w' := by
  have hG := fun w' (b : Below u.heap.size u w') => (h.later b).geom
  have hM := fun w' => maps_any V.s g w'
  have hL := fun w' (b : Below u.heap.size u w') => vload_any (h.later b) ok ht (V.s.inG g 1) 3 (inG_wf _ _)
  have hlt := h.lt
  unfold VZ.mlE VZ.mlB VZ.mlk
  generalize V.s.inG g 1 = pl at *
  obtain ⟨e0, he0⟩ : ∃ e0, Hid (V.s.herr g = e0) := ⟨_, rfl⟩
  rw [he0.out] at hM ⊢
  by_cases h0 : e0 = 0
  · subst h0
    rw [if_pos rfl, if_pos rfl, if_pos rfl]
    generalize V.ldB pl 3 = L0 at *
    generalize V.ldE pl 3 = e1 at *
    have hL0 := L0.len
    go_enter Tryz.func18, Tryz.ntmps18
    go_wp2_with (first
      | (refine at_new 64 54 arrL (by rfl) (by rfl) ?_; intro gr w1 a1 z1 r1 b1)
      | (go_at_call 16; refine (hG _ b1).mono ?_; rintro e w2 ⟨rfl, b2⟩; clear hG)
      | (go_at_call 41; refine (hM _).mono ?_; rintro e w3 ⟨rfl, b3⟩; clear hM
         have B3 := bnext (bnext b1 b2 (Nat.le_refl _)) b3 (Nat.le_refl _)
         have r3 := (r1.later b2).later b3)
      | (go_at_call 48; refine (hL _ B3).mono ?_; rintro e w4 ⟨rfl, k4⟩; clear hL
         have r4 := r3.step k4.stp (fun e => by have := hlt _ e; omega))
      | (refine at_put 64 54 arrL (by rfl) _ _ (by rfl) gr (by rfl) L0.l (by rfl) hL0 _ r4 (by simp) ?_; intro w5 r5 s5))
    have q2 := b2.size
    have q3 := b3.size
    exact bodyPost_ret (retAt arrL Tryz.results18 rfl rfl r5 hL0) rfl ⟨rfl, VG.own hlt B3 a1 (by omega) k4 (Below.refl _ _) s5⟩
  · have hd0 : ¬ e0 = 0 := h0
    have hZ := Ld.zero.len
    rw [if_neg h0, if_neg h0, if_neg h0]
    clear hL h0
    go_enter Tryz.func18, Tryz.ntmps18
    go_wp2_with (first
      | (refine at_new 64 54 arrL (by rfl) (by rfl) ?_; intro gr w1 a1 z1 r1 b1)
      | (go_at_call 16; refine (hG _ b1).mono ?_; rintro e w2 ⟨rfl, b2⟩; clear hG)
      | (go_at_call 41; refine (hM _).mono ?_; rintro e w3 ⟨rfl, b3⟩; clear hM
         have B3 := bnext (bnext b1 b2 (Nat.le_refl _)) b3 (Nat.le_refl _)
         have r3 := (r1.later b2).later b3)
      | (refine at_bldL (by rfl) (by rfl) ?_)
      | (refine at_put 64 54 arrL (by rfl) _ _ (by rfl) gr (by rfl) Ld.zero.l (by rfl) hZ _ r3 (by simp) ?_; intro w5 r5 s5))
    have q2 := b2.size
    have q3 := b3.size
    exact bodyPost_ret (retAt arrL Tryz.results18 rfl rfl r5 hZ) rfl ⟨rfl, VG.own hlt B3 a1 (by omega) (VG.refl (h.later B3)) (Below.refl _ _) s5⟩
end
set_option maxRecDepth 100000
theorem srtA : Srt 58 3 [.int .i64 0, .int .i64 0, .int .i64 0] :=
  ⟨⟨_, Tryz.underlying58, rfl⟩, by kernel_rfl, fun w => (zero_of_info (v := .agg #[.int .i64 0, .int .i64 0, .int .i64 0]) (n := 3) (by kernel_rfl)).1 w, rfl, by intro v hv; simp at hv; subst hv; rfl⟩
theorem FR.one (r : FR) : ∀ v ∈ r.cs, v.oneCell' = true := by intro v hv; simp at hv; rcases hv with rfl | rfl | rfl <;> rfl
theorem bldA0 (w : World) : (Instr.build 58 #[]).run Tryz.prog w = .ok (.agg (FR.no 0).cs.toArray) w := by kernel_rfl
theorem bldA3 (x y z : Int) (w : World) : (Instr.build 58 #[(0, .int .i64 x), (1, .int .i64 y), (2, .int .i64 z)]).run Tryz.prog w = .ok (.agg [Value.int .i64 x, .int .i64 y, .int .i64 z].toArray) w := by kernel_rfl
theorem at_bldA0 {ops : Array Oper} {rest : List Oper} {o : Oper} {a : Act} {w : World} {Q : Exit → Act → World → Prop} (hw : Region.wanted o (yielded ops a.tmps) = true) (ho : o.op = .build 58 #[])
    (h : wpList Tryz.prog ops Q rest (a.put o.dst (.agg (FR.no 0).cs.toArray)) w) : wpList Tryz.prog ops Q (o :: rest) a w := by
  refine op_val hw _ _ ?_ h
  simp only [execOp, ho, Sem.run_bind, List.map_toArray, List.map_nil, bldA0]; rfl
theorem yields_bldA {ops : Array Oper} {o : Oper} {a : Act} {S : World → Prop} (hw : Region.wanted o (yielded ops a.tmps) = true) (x y z : Operand) (ho : o.op = .build 58 #[(0, x), (1, y), (2, z)]) (i j k : Int) (hx : a.eval x = .int .i64 i) (hy : a.eval y = .int .i64 j) (hz : a.eval z = .int .i64 k) :
    YieldsIf Tryz.prog ops S o (.agg [Value.int .i64 i, .int .i64 j, .int .i64 k].toArray) a :=
  Or.inl ⟨hw, fun w hs => by
    have := bldA3 i j k w
    simp only [execOp, ho, Sem.run_bind, List.map_toArray, List.map_cons, List.map_nil, hx, hy, hz, this]; rfl⟩
theorem retPL {fn : Func} {p q v : Tmp} {tmps : Array Value} {w : World} {g g' T n T' m : Nat} {z cs : List Value} {l : List UInt8} {y : Value} (hT : Srt T n z) (hL : Arr T' m) (h : fn.results = #[.cell p T, .cell q T', .tmp v]) (hp : tmps.getD p undef = .pointer (some ⟨g, 0, none⟩)) (hq : tmps.getD q undef = .pointer (some ⟨g', 0, none⟩)) (hv : tmps.getD v undef = y) (hR : Cs w g cs) (hl : cs.length = n) (hQ : Row w g' l) (hm : l.length = m) :
    (results fn tmps).run Tryz.prog w = .ok (.tuple #[.agg cs.toArray, .agg (cells l).toArray, y]) w := by
  have hp' : tmps[p]?.getD undef = .pointer (some ⟨g, 0, none⟩) := by simpa using hp
  have hq' : tmps[q]?.getD undef = .pointer (some ⟨g', 0, none⟩) := by simpa using hq
  have hv' : tmps[v]?.getD undef = y := by simpa using hv
  simp [results, h, hp', hq', hv', asAddr, loadC hT hR hl, loadA hL hQ hm]
def VZ.fst (V : VZ) (kd : Int) (g0 : Nat) : FR × VZ := VZ.fsN kd g0 V.s.g.toNat 0 V
section
variable {u : World} {A : VA} {V : VZ} {T : Nat → Prop} {t k : Nat}
set_option maxHeartbeats 16000000 in
theorem afirst_any (h : Vo u A V T) (ok : VOk t k V) (ht : t + 8 ≤ 8990) (kd : Int) (hk : wfi kd) (g0 : Nat) (hg : (g0 : Int) < V.s.g) :
    Calls Tryz.prog 42 #[.pointer (some ⟨A.v, 0, none⟩), .int .i64 kd, .int .i64 (g0 : Int)] u fun e w' =>
      e = .returned (.tuple #[.agg (V.fst kd g0).1.cs.toArray, .agg (V.fst kd g0).1.m.cs.toArray, .int .i64 (V.fst kd g0).1.e]) ∧ VG A (V.fst kd g0).2 T u w' := by
  obtain ⟨s1, s8, -⟩ := h.sok
  have hlt := h.lt
  obtain ⟨R, hR⟩ : ∃ R, Hid (V.fst kd g0 = R) := ⟨_, rfl⟩
  rw [hR.out]
  have hGm := fun w' (b : Below u.heap.size u w') => (h.later b).geom
  have hZ := Ld.zero.len
  go_enter Tryz.func42, Tryz.ntmps42
  go_wp2_with (first
    | (refine at_newC 58 3 _ srtA (by rfl) (by rfl) ?_; intro gr w1 a1 z1 r1 b1)
    | (refine at_new 64 54 arrL (by rfl) (by rfl) ?_; intro gl w2 a2 z2 r2 b2
       have B2 := bnext b1 b2 (Nat.le_refl _))
    | (go_at_call 16; refine (hGm _ B2).mono ?_; rintro e w3 ⟨rfl, b3⟩; clear hGm)
    | (refine at_newG (by rfl) (by rfl) ?_; intro gg w4 a4 z4 r4 b4)
    | (refine at_putG (by rfl) _ _ (by rfl) gg (by rfl) V.s (by rfl) _ r4 ?_; intro w5 r5 s5
       have c5 := r5.range 0 _ rfl
       simp only [Nat.zero_add] at c5))
  have q1 := b1.size
  have q2 := b2.size
  have q3 := b3.size
  have q4 := b4.size
  have B5 : Below u.heap.size u w5 := ((Stp.of_below (bnext (bnext B2 b3 (Nat.le_refl _)) b4 (Nat.le_refl _)) (fun _ => False)).next s5 (fun x e => .inr (by omega))).below (Nat.le_refl _) (fun x e => e.elim)
  have h5 := h.later B5
  have q5 := s5.size
  have cr5 := (((r1.later b2).later b3).later b4).step s5 (fun e => by omega)
  have rl5 := ((r2.later b3).later b4).step s5 (fun e => by omega)
  have nr : ¬ T gr := fun e => by have := hlt _ e; omega
  have nl : ¬ T gl := fun e => by have := hlt _ e; omega
  have ng : ¬ T gg := fun e => by have := hlt _ e; omega
  clear b1 b2 b3 b4 B2 r1 r2 r4 s5 c5
  go_loopw [19] (fun i wr => ∃ (a : Nat) (Va : VZ), a ≤ V.s.g.toNat ∧ i = .int .i64 (a : Int) ∧ VZ.fsN kd g0 (V.s.g.toNat - a) a Va = R ∧ Va.s = V.s ∧ VOk (t + a) k Va ∧ VG A Va T w5 wr ∧ Cs wr gr [.int .i64 0, .int .i64 0, .int .i64 0] ∧ Row wr gl (List.replicate 54 0) ∧ GR wr gg V.s) (fun i _ => V.s.g.toNat - (intOf i).toNat)
  case atStart => exact ⟨0, V, Nat.zero_le _, rfl, hR.out, rfl, ok, VG.refl h5, cr5, rl5, r5⟩
  case round =>
    obtain ⟨a, Va, ha, rfl, eR, es, oka, vg, cr, rl, rg⟩ := hrel
    obtain ⟨T1, H1, S1, g1⟩ := vg
    have n1 : ∀ x, x < w5.heap.size → ¬ T x → ¬ T1 x := fun x hx hn e => by
      rcases g1 x e with e | e
      · exact hn e
      · omega
    have n1r := n1 gr (by omega) nr
    have n1l := n1 gl (by omega) nl
    have n1g := n1 gg (by omega) ng
    have l1 := H1.lt
    have qr := S1.size
    have fin : ∀ (V2 : VZ) (w6 w8 w9 : World), VG A V2 T1 wr w6 → Below w6.heap.size w6 w8 → Stp (fun y => y = gr ∨ y = gl) w8 w9 → VG A V2 T u w9 := fun V2 w6 w8 w9 k6 b8 s9 => by
      have S8 := (VG.from B5 (VG.seq S1 g1 (k6.then b8))).stp
      obtain ⟨T6, H6, S6, g6⟩ := k6.then b8
      have q9 := s9.size
      have q8 := S6.size
      refine ⟨T6, H6.step s9 (fun x hx e => ?_), S8.next s9 (fun x e => .inr (by omega)), fun x hx => ?_⟩
      · rcases g6 x hx with d | d
        · rcases e with e | e
          · subst e; exact n1r d
          · subst e; exact n1l d
        · omega
      · rcases g6 x hx with e | e
        · rcases g1 x e with e | e
          · exact .inl e
          · exact .inr ⟨by omega, by omega⟩
        · exact .inr ⟨by omega, by omega⟩
    clear n1 hR cr5 rl5 r5 h5
    by_cases hlt' : (a : Int) < V.s.g
    · obtain ⟨n, hn⟩ : ∃ n, V.s.g.toNat - a = n + 1 := ⟨V.s.g.toNat - a - 1, by omega⟩
      have hn' : Hid (V.s.g.toNat - (a + 1) = n) := by show _ = _; omega
      obtain ⟨m, hm⟩ : ∃ m, Hid ((g0 + a) % V.s.g.toNat = m) := ⟨_, rfl⟩
      have hrem : ((g0 : Int) + (a : Int)).tmod V.s.g = (m : Int) := by
        rw [← hm.out, show V.s.g = ((V.s.g.toNat : Nat) : Int) by omega]
        have : ((g0 : Int) + (a : Int)) = ((g0 + a : Nat) : Int) := by omega
        rw [this]
        simp only [Int.toNat_natCast]
        exact (Int.ofNat_tmod _ _).symm
      have hrem' : ((g0 : Int) + (a : Int)) % V.s.g = (m : Int) := by
        rw [← hrem, Int.tmod_eq_emod_of_nonneg (by omega)]
      rw [hn] at eR
      unfold VZ.fsN at eR
      rw [es, hm.out] at eR
      have hA := aload_any H1 oka (by omega) (m : Int)
      have ek := mlk_s Va (m : Int)
      have okk := oka.mlk (m : Int)
      rw [es] at ek
      obtain ⟨V2, hV2⟩ : ∃ V2, Hid (Va.mlk (m : Int) = V2) := ⟨_, rfl⟩
      obtain ⟨L0, hL2⟩ : ∃ L, Hid (Va.mlB (m : Int) = L) := ⟨_, rfl⟩
      obtain ⟨e1, he2⟩ : ∃ e, Hid (Va.mlE (m : Int) = e) := ⟨_, rfl⟩
      obtain ⟨f1, hf1⟩ : ∃ f, Hid (m1 L0 V.s kd 0 = f) := ⟨_, rfl⟩
      rw [hV2.out, hL2.out, he2.out] at hA eR
      rw [hV2.out] at ek okk
      rw [hf1.out] at eR
      have hF := fun w' => mfirst_any L0 V.s kd 0 w' hk (wfi_of (by omega))
      rw [hf1.out] at hF
      have hL0 := L0.len
      have s0 : ¬ V.s.g = 0 := by omega
      have eRh : Hid _ := eR
      have nx : ∀ w8 w6, VG A V2 T1 wr w6 → Below w6.heap.size w6 w8 → VZ.fsN kd g0 n (a + 1) V2 = R → ∃ (a' : Nat) (Va : VZ), a' ≤ V.s.g.toNat ∧ Value.int .i64 ((a : Int) + 1) = .int .i64 (a' : Int) ∧ VZ.fsN kd g0 (V.s.g.toNat - a') a' Va = R ∧ Va.s = V.s ∧ VOk (t + a') k Va ∧ VG A Va T w5 w8 ∧ Cs w8 gr [.int .i64 0, .int .i64 0, .int .i64 0] ∧ Row w8 gl (List.replicate 54 0) ∧ GR w8 gg V.s := fun w8 w6 k6 b8 e =>
        ⟨a + 1, V2, by omega, by rw [show (a : Int) + 1 = ((a + 1 : Nat) : Int) by omega], by rw [hn'.out]; exact e, ek, okk, VG.seq S1 g1 (k6.then b8), (cr.step k6.stp n1r).later b8, (rl.step k6.stp n1l).later b8, (rg.step k6.stp n1g).later b8⟩
      have c0 := rg.range 0 _ rfl
      simp only [Nat.zero_add] at c0
      clear hm hn hn' ek okk hf1 hL2 he2 hV2 eR oka
      by_cases h21 : e1 = 21
      · subst h21
        have eR1 : Hid (VZ.fsN kd g0 n (a + 1) V2 = R) := by have := eRh.out; rwa [if_pos rfl] at this
        clear hF eRh
        go_wp2_with (first
          | (go_at_call 18; refine hA.mono ?_; rintro e w6 ⟨rfl, k6⟩; clear hA c0)
          | (refine at_new 64 54 arrL (by rfl) (by rfl) ?_; intro gm w7 a7 z7 r7 b7)
          | (refine at_put 64 54 arrL (by rfl) _ _ (by rfl) gm (by rfl) L0.l (by rfl) hL0 _ r7 (by simp) ?_; intro w8 r8 s8))
        have B8 : Below w6.heap.size w6 w8 := ((Stp.of_below b7 (fun _ => False)).next s8 (fun x e => .inr (by omega))).below (Nat.le_refl _) (fun x e => e.elim)
        go_roundw
        case rel => exact nx w8 w6 k6 B8 eR1.out
        case measure => simp [intOf]; omega
      · by_cases h0 : e1 = 0
        · subst h0
          have eR1 := eRh.out
          rw [if_neg h21, if_pos rfl] at eR1
          by_cases hf : 0 ≤ f1
          · rw [if_pos hf] at eR1
            have eR2 : Hid _ := eR1
            clear eR1 eRh nx h21
            go_wp2_with (first
              | (go_at_call 18; refine hA.mono ?_; rintro e w6 ⟨rfl, k6⟩; clear hA c0
                 have rg6 := rg.step k6.stp n1g)
              | (refine at_new 64 54 arrL (by rfl) (by rfl) ?_; intro gm w7 a7 z7 r7 b7)
              | (refine at_put 64 54 arrL (by rfl) _ _ (by rfl) gm (by rfl) L0.l (by rfl) hL0 _ r7 (by simp) ?_; intro w8 r8 s8
                 have B8 : Below w6.heap.size w6 w8 := ((Stp.of_below b7 (fun _ => False)).next s8 (fun x e => .inr (by omega))).below (Nat.le_refl _) (fun x e => e.elim)
                 have rg8 := rg6.later B8)
              | (refine at_get 64 54 arrL (by rfl) _ (by rfl) gm (by rfl) _ r8 hL0 ?_)
              | (refine at_getG (by rfl) _ (by rfl) gg (by rfl) V.s rg8 ?_)
              | (go_at_call 22; refine (hF _).mono ?_; rintro e w9 ⟨rfl, b9⟩; clear hF))
            have q6 := k6.stp.size
            have q7 := b7.size
            have q8 := s8.size
            have q9 := b9.size
            have B9 := bnext B8 b9 (Nat.le_refl _)
            have cr9 := (cr.step k6.stp n1r).later B9
            have rl9 := (rl.step k6.stp n1l).later B9
            have rm9 := r8.later b9
            have nm1 : ¬ (gm = gr ∨ gm = gl) := fun e => by omega
            have nrl : ¬ gl = gr := fun e => by omega
            clear cr rl rg rg6 rg8 r7 r8 s8 b7 b9 B8
            refine wp_region_held_drew (S := fun x => Stp (fun y => y = gr ∨ y = gl) w9 x) (by kernel_rfl) (Stp.refl _ _).drew (fun hHeld => ?_)
            refine tl 0 (.int .i64 kd) rfl ?_
            try simp only [z]
            refine tl 1 (.int .i64 (m : Int)) rfl ?_
            try simp only [z]
            refine tl 2 (.int .i64 f1) rfl ?_
            try simp only [z]
            refine tm 3 (.agg [Value.int .i64 kd, .int .i64 (m : Int), .int .i64 f1].toArray) rfl
              (yields_bldA (by rfl) _ _ _ (by rfl) kd (m : Int) f1 (by rfl) (by rfl) (by rfl)) ?_
            try simp only [z]
            refine tm 4 (.agg L0.cs.toArray) rfl
              (yields_row 64 54 arrL (by rfl) (.tmp 12) rfl gm (by rfl) L0.l hL0 (fun u hu => rm9.step hu nm1)) ?_
            try simp only [z]
            refine rd 5 rfl (fun K hK => ?_)
            refine step_putC 58 3 _ srtA rfl (.tmp 6) (.tmp 50) rfl gr (by rfl) [Value.int .i64 kd, .int .i64 (m : Int), .int .i64 f1] (by rfl) rfl (by intro v hv; simp at hv; rcases hv with rfl | rfl | rfl <;> rfl) _ (cr9.later (Below.refl _ _).drew) rfl ?_
            intro v5 y5 s5
            refine hK.out _ _ (hHeld.trans (s5.mono (fun x e => .inl (.inl e)))) (fun hHeld => ?_)
            clear hK K
            try simp only [Act.put]
            refine rd 6 rfl (fun K hK => ?_)
            refine step_put 64 54 arrL rfl (.tmp 7) (.tmp 51) rfl gl (by rfl) L0.l (by rfl) hL0 _ ((rl9.later (Below.refl _ _).drew).step s5 nrl) (by simp) ?_
            intro v6 y6 s6
            refine hK.out _ _ (hHeld.trans (s6.mono (fun x e => .inl (.inr e)))) (fun hHeld => ?_)
            clear hK K
            try simp only [Act.put]
            refine tl 7 (.int .i64 0) rfl ?_
            try simp only [z]
            refine wpAnyH_done (by kernel_rfl) ?_ _
            go_wp2_with fail
            refine bodyPost_ret (retPL srtA arrL Tryz.results42 rfl rfl rfl (y5.step s6 (fun e => nrl e.symm)) rfl y6 hL0) rfl ⟨by rw [← eR2.out]; rfl, ?_⟩
            rw [← eR2.out]
            exact fin V2 w6 w9 _ k6 B9 hHeld
          · rw [if_neg hf] at eR1
            have eR2 : Hid _ := eR1
            have hf' : ¬ 0 ≤ f1 := hf
            clear eR1 eRh h21 hf
            go_wp2_with (first
              | (go_at_call 18; refine hA.mono ?_; rintro e w6 ⟨rfl, k6⟩; clear hA c0
                 have rg6 := rg.step k6.stp n1g)
              | (refine at_new 64 54 arrL (by rfl) (by rfl) ?_; intro gm w7 a7 z7 r7 b7)
              | (refine at_put 64 54 arrL (by rfl) _ _ (by rfl) gm (by rfl) L0.l (by rfl) hL0 _ r7 (by simp) ?_; intro w8 r8 s8
                 have B8 : Below w6.heap.size w6 w8 := ((Stp.of_below b7 (fun _ => False)).next s8 (fun x e => .inr (by omega))).below (Nat.le_refl _) (fun x e => e.elim)
                 have rg8 := rg6.later B8)
              | (refine at_get 64 54 arrL (by rfl) _ (by rfl) gm (by rfl) _ r8 hL0 ?_)
              | (refine at_getG (by rfl) _ (by rfl) gg (by rfl) V.s rg8 ?_)
              | (go_at_call 22; refine (hF _).mono ?_; rintro e w9 ⟨rfl, b9⟩; clear hF))
            go_roundw
            case rel => exact nx w9 w6 k6 (bnext B8 b9 (Nat.le_refl _)) eR2.out
            case measure => simp [intOf]; omega
        · have eR1 := eRh.out
          rw [if_neg h21, if_neg h0] at eR1
          have eR2 : Hid _ := eR1
          have d21 : ¬ e1 = 21 := h21
          have d0 : ¬ e1 = 0 := h0
          clear eR1 eRh h21 h0 hF nx
          go_wp2_with (first
            | (go_at_call 18; refine hA.mono ?_; rintro e w6 ⟨rfl, k6⟩; clear hA c0
               have cr6 := cr.step k6.stp n1r
               have rl6 := rl.step k6.stp n1l)
            | (refine at_new 64 54 arrL (by rfl) (by rfl) ?_; intro gm w7 a7 z7 r7 b7)
            | (refine at_put 64 54 arrL (by rfl) _ _ (by rfl) gm (by rfl) L0.l (by rfl) hL0 _ r7 (by simp) ?_; intro w8 r8 s8
               have B8 : Below w6.heap.size w6 w8 := ((Stp.of_below b7 (fun _ => False)).next s8 (fun x e => .inr (by omega))).below (Nat.le_refl _) (fun x e => e.elim)
               have cr8 := cr6.later B8
               have rl8 := rl6.later B8)
            | (refine at_bldA0 (by rfl) (by rfl) ?_)
            | (refine at_bldL (by rfl) (by rfl) ?_)
            | (refine at_putC 58 3 _ srtA (by rfl) _ _ (by rfl) gr (by rfl) (FR.no 0).cs (by rfl) rfl (FR.one _) _ cr8 rfl ?_; intro w9 r9 s9)
            | (refine at_put 64 54 arrL (by rfl) _ _ (by rfl) gl (by rfl) Ld.zero.l (by rfl) hZ _ (rl8.step s9 (fun e => by omega)) (by simp) ?_; intro w10 r10 s10))
          refine bodyPost_ret (retPL srtA arrL Tryz.results42 rfl rfl rfl (r9.step s10 (fun e => by omega)) rfl r10 hZ) rfl ⟨by rw [← eR2.out]; rfl, ?_⟩
          rw [← eR2.out]
          exact fin V2 w6 w8 _ k6 B8 ((s9.mono (fun x e => .inl (.inl e))).trans (s10.mono (fun x e => .inl (.inr e))))
    · have ha' : V.s.g.toNat - a = 0 := by omega
      rw [ha'] at eR
      have eR2 : Hid _ := eR
      clear eR ha'
      go_wp2_with (first
        | (refine at_bldA0 (by rfl) (by rfl) ?_)
        | (refine at_bldL (by rfl) (by rfl) ?_)
        | (refine at_putC 58 3 _ srtA (by rfl) _ _ (by rfl) gr (by rfl) (FR.no 0).cs (by rfl) rfl (FR.one _) _ cr rfl ?_; intro w9 r9 s9)
        | (refine at_put 64 54 arrL (by rfl) _ _ (by rfl) gl (by rfl) Ld.zero.l (by rfl) hZ _ (rl.step s9 (fun e => by omega)) (by simp) ?_; intro w10 r10 s10))
      refine bodyPost_ret (retPL srtA arrL Tryz.results42 rfl rfl rfl (r9.step s10 (fun e => by omega)) rfl r10 hZ) rfl ⟨by rw [← eR2.out]; rfl, ?_⟩
      rw [← eR2.out]
      exact fin Va wr wr _ (VG.refl H1) (Below.refl _ _) ((s9.mono (fun x e => .inl (.inl e))).trans (s10.mono (fun x e => .inl (.inr e))))
end
end Go.Proofs.YtennaimdffohfaaGreatDoor
