/-
  Texts of my own, joined: no statement is proved here.
-/
import Derived.Laws.CopyOwn
import Derived.DeepKeys
import Derived.BigQuiet
import Derived.Test.YtgdnhkdfcjpdiaaGreatDoorJbo
import Derived.Test.YtgdnhkdfcjpdiaaGreatDoorJbp
set_option linter.unusedSimpArgs false
set_option linter.unusedVariables false
namespace Go.Proofs.YtgdnhkdfcjpdiaaGreatDoor
open Go.ChangeShapes Go.WideShapes Go.ChangeAt Go.RowKit
set_option maxRecDepth 100000
def VZ.ldE (V : VZ) (i k : Int) : Int := if V.nowE i = 0 then (if gES k (V.nowB i) = 0 then 0 else 21) else V.nowE i
def VZ.ldB (V : VZ) (i k : Int) : Ld := if V.nowE i = 0 then (if gES k (V.nowB i) = 0 then gP k (V.nowB i) else Ld.zero) else Ld.zero
section
variable {u : World} {A : VA} {V V' : VZ} {T : Nat → Prop} {t k : Nat}
theorem VG.own {w1 w2 w7 w9 : World} {g : Nat} (hlt : ∀ x, T x → x < u.heap.size) (b1 : Below u.heap.size u w1) (hg : u.heap.size ≤ g) (hg1 : g < w1.heap.size) (k : VG A V' T w1 w2) (B : Below w2.heap.size w2 w7) (s : Stp (fun x => x = g) w7 w9) : VG A V' T u w9 := by
  obtain ⟨T', H, s2, g2⟩ := k
  refine ⟨T', (H.later B).step s (fun x hx e => ?_), ((((Stp.of_below b1 T).trans s2).trans (Stp.of_below B T)).next s (fun x e => .inr (by omega))), fun x hx => ?_⟩
  · subst e
    rcases g2 x hx with e | e
    · have := hlt x e; omega
    · omega
  · rcases g2 x hx with e | e
    · exact .inl e
    · exact .inr ⟨Nat.le_trans b1.size e.1, Nat.lt_of_lt_of_le e.2 (Nat.le_trans B.size s.size)⟩
theorem Vo.geom (h : Vo u A V T) : Calls Tryz.prog 13 #[.pointer (some ⟨A.v, 0, none⟩)] u fun e w' => e = .returned (gv V.s) ∧ Below u.heap.size u w' := by
  obtain ⟨U, E, F, H, _⟩ := h
  exact vgeom_any H
theorem Vo.sok (h : Vo u A V T) : V.s.ok := by
  obtain ⟨U, E, F, H, _⟩ := h
  exact H.so
set_option maxHeartbeats 4000000 in
theorem vload_any (h : Vo u A V T) (ok : VOk t k V) (ht : t ≤ 8990) (i kd : Int) (hi : wfi i) :
    Calls Tryz.prog 14 #[.pointer (some ⟨A.v, 0, none⟩), .int .i64 i, .int .i64 kd] u fun e w' => e = .returned (.tuple #[.agg (V.ldB i kd).cs.toArray, .int .i64 (V.ldE i kd)]) ∧ VG A (V.look i) T u w' := by
  have hN : ∀ w', Below u.heap.size u w' → Calls Tryz.prog 37 #[.pointer (some ⟨A.v, 0, none⟩), .int .i64 i] w' fun e w2 => e = .returned (.tuple #[.agg (V.nowB i).cs.toArray, .int .i64 (V.nowE i)]) ∧ VG A (V.look i) T w' w2 := fun w' b => by
    obtain ⟨U, E, F, H, hT⟩ := h.later b
    exact vnow_any H ok ht i hi hT
  have hlt := h.lt
  unfold VZ.ldE VZ.ldB
  generalize V.nowB i = B0 at *
  generalize V.nowE i = e1 at *
  have t1 : Hid True := trivial
  have hFin : ∀ {w1 w2 w3 w4 w9 : World} {gr gb : Nat}, Below u.heap.size u w1 → VG A (V.look i) T w1 w2 → Below w2.heap.size w2 w3 → w2.heap.size ≤ gb → Stp (fun y => y = gb) w3 w4 → u.heap.size ≤ gr → gr < w1.heap.size → Stp (fun y => y = gr) w4 w9 → VG A (V.look i) T u w9 := fun b1 k2 b3 hb s4 a1 z1 s9 => VG.own hlt b1 a1 z1 k2 (((Stp.of_below b3 (fun _ => False)).next s4 (fun x e => .inr (by omega))).below (Nat.le_refl _) (fun x e => e.elim)) s9
  have hB := B0.len
  by_cases he : e1 = 0
  · subst he
    rw [if_pos rfl, if_pos rfl]
    have hGB := fun w' => get_anyS kd B0 w'
    by_cases hg : gES kd B0 = 0
    · rw [if_pos hg, if_pos hg]
      rw [hg] at hGB
      have hL := (gP kd B0).len
      generalize gP kd B0 = L0 at *
      generalize gT kd B0 = T0 at *
      clear hg
      go_enter Tryz.func14, Tryz.ntmps14
      go_wp2_with (first
        | (clear t1; refine at_new 62 54 arrL (by rfl) (by rfl) ?_; intro gr w1 a1 z1 r1 b1)
        | (go_at_call 37; refine (hN _ b1).mono ?_; rintro e w2 ⟨rfl, k2⟩; clear hN
           have s2 := k2.stp
           have r2 := r1.step s2 (fun e => by have := hlt _ e; omega))
        | (refine at_new 88 64 arrB (by rfl) (by rfl) ?_; intro gb w3 a3 z3 r3 b3)
        | (refine at_put 88 64 arrB (by rfl) _ _ (by rfl) gb (by rfl) B0.l (by rfl) hB _ r3 (by simp) ?_; intro w4 r4 s4)
        | (refine at_get 88 64 arrB (by rfl) _ (by rfl) gb (by rfl) _ r4 hB ?_)
        | (go_at_call 38; refine (hGB _).mono ?_; rintro e w5 ⟨rfl, b5⟩; clear hGB)
        | (refine at_new 62 54 arrL (by rfl) (by rfl) ?_; intro gl w6 a6 z6 r6 b6)
        | (refine at_put 62 54 arrL (by rfl) _ _ (by rfl) gl (by rfl) L0.l (by rfl) hL _ r6 (by simp) ?_; intro w7 r7 s7
           have r8 : Row w7 gr _ := ((((r2.later b3).step s4 (fun e => by have := s2.size; omega)).later b5).later b6).step s7 (fun e => by have := s2.size; have := b3.size; have := s4.size; have := b5.size; omega))
        | (refine at_get 62 54 arrL (by rfl) _ (by rfl) gl (by rfl) _ r7 hL ?_)
        | (refine at_put 62 54 arrL (by rfl) _ _ (by rfl) gr (by rfl) L0.l (by rfl) hL _ r8 (by simp) ?_; intro w9 r9 s9))
      have k3 := b3.size
      have k4 := s4.size
      have k5 := b5.size
      have k6 := b6.size
      have B6 : Below w2.heap.size w2 w6 := ((Stp.of_below b3 (fun _ => False)).next s4 (fun x e => .inr (by omega))).trans (Stp.of_below (bnext b5 b6 (Nat.le_refl _)) _) |>.below (Nat.le_refl _) (fun _ h => h.elim)
      exact bodyPost_ret (retAt arrL Tryz.results14 rfl rfl r9 hL) rfl ⟨rfl, hFin b1 k2 B6 (by omega) s7 a1 z1 s9⟩
    · rw [if_neg hg, if_neg hg]
      have hL := (gP kd B0).len
      have hZ := Ld.zero.len
      obtain ⟨e2, he2⟩ : ∃ e, Hid (gES kd B0 = e) := ⟨_, rfl⟩
      rw [he2.out] at hGB hg
      have hd0 : ¬ e2 = 0 := hg
      generalize gP kd B0 = L0 at *
      generalize gT kd B0 = T0 at *
      clear he2 hg
      go_enter Tryz.func14, Tryz.ntmps14
      go_wp2_with (first
        | (clear t1; refine at_new 62 54 arrL (by rfl) (by rfl) ?_; intro gr w1 a1 z1 r1 b1)
        | (go_at_call 37; refine (hN _ b1).mono ?_; rintro e w2 ⟨rfl, k2⟩; clear hN
           have s2 := k2.stp
           have r2 := r1.step s2 (fun e => by have := hlt _ e; omega))
        | (refine at_new 88 64 arrB (by rfl) (by rfl) ?_; intro gb w3 a3 z3 r3 b3)
        | (refine at_put 88 64 arrB (by rfl) _ _ (by rfl) gb (by rfl) B0.l (by rfl) hB _ r3 (by simp) ?_; intro w4 r4 s4)
        | (refine at_get 88 64 arrB (by rfl) _ (by rfl) gb (by rfl) _ r4 hB ?_)
        | (go_at_call 38; refine (hGB _).mono ?_; rintro e w5 ⟨rfl, b5⟩; clear hGB)
        | (refine at_new 62 54 arrL (by rfl) (by rfl) ?_; intro gl w6 a6 z6 r6 b6)
        | (refine at_put 62 54 arrL (by rfl) _ _ (by rfl) gl (by rfl) L0.l (by rfl) hL _ r6 (by simp) ?_; intro w7 r7 s7
           have r8 : Row w7 gr _ := ((((r2.later b3).step s4 (fun e => by have := s2.size; omega)).later b5).later b6).step s7 (fun e => by have := s2.size; have := b3.size; have := s4.size; have := b5.size; omega))
        | (refine at_bldL (by rfl) (by rfl) ?_)
        | (refine at_put 62 54 arrL (by rfl) _ _ (by rfl) gr (by rfl) Ld.zero.l (by rfl) hZ _ r8 (by simp) ?_; intro w9 r9 s9))
      have k3 := b3.size
      have k4 := s4.size
      have k5 := b5.size
      have k6 := b6.size
      have B6 : Below w2.heap.size w2 w6 := ((Stp.of_below b3 (fun _ => False)).next s4 (fun x e => .inr (by omega))).trans (Stp.of_below (bnext b5 b6 (Nat.le_refl _)) _) |>.below (Nat.le_refl _) (fun _ h => h.elim)
      exact bodyPost_ret (retAt arrL Tryz.results14 rfl rfl r9 hZ) rfl ⟨rfl, hFin b1 k2 B6 (by omega) s7 a1 z1 s9⟩
  · rw [if_neg he, if_neg he]
    have hd0 : ¬ e1 = 0 := he
    have hZ := Ld.zero.len
    clear he
    go_enter Tryz.func14, Tryz.ntmps14
    go_wp2_with (first
      | (clear t1; refine at_new 62 54 arrL (by rfl) (by rfl) ?_; intro gr w1 a1 z1 r1 b1)
      | (go_at_call 37; refine (hN _ b1).mono ?_; rintro e w2 ⟨rfl, k2⟩; clear hN
         have s2 := k2.stp
         have r2 := r1.step s2 (fun e => by have := hlt _ e; omega))
      | (refine at_new 88 64 arrB (by rfl) (by rfl) ?_; intro gb w3 a3 z3 r3 b3)
      | (refine at_put 88 64 arrB (by rfl) _ _ (by rfl) gb (by rfl) B0.l (by rfl) hB _ r3 (by simp) ?_; intro w4 r4 s4
         have r8 : Row w4 gr _ := (r2.later b3).step s4 (fun e => by have := s2.size; omega))
      | (refine at_bldL (by rfl) (by rfl) ?_)
      | (refine at_put 62 54 arrL (by rfl) _ _ (by rfl) gr (by rfl) Ld.zero.l (by rfl) hZ _ r8 (by simp) ?_; intro w9 r9 s9))
    exact bodyPost_ret (retAt arrL Tryz.results14 rfl rfl r9 hZ) rfl ⟨rfl, hFin b1 k2 b3 a3 s4 a1 z1 s9⟩
end
set_option maxRecDepth 100000
def lo2 (x : Nat) : List UInt8 := [UInt8.ofNat (x % 256), UInt8.ofNat (x / 256 % 256)]
def at2 (l : List UInt8) (k : Nat) : Nat := (l.getD k 0).toNat + 256 * (l.getD (k + 1) 0).toNat
theorem at2_lt (l : List UInt8) (k : Nat) : at2 l k < 65536 := by
  have := (l.getD k 0).toNat_lt; have := (l.getD (k + 1) 0).toNat_lt; unfold at2; omega
theorem back2 (x : Nat) (h : x < 65536) : (UInt8.ofNat (x % 256)).toNat + 256 * (UInt8.ofNat (x / 256 % 256)).toNat = x := by
  rw [u8_to (by omega), u8_to (by omega)]; omega
theorem ints_lo2 {x : Nat} (h : x < 65536) : ints (lo2 x) = [(x : Int) % 256, (x : Int) / 256] := by
  unfold ints lo2
  simp only [List.map_cons, List.map_nil]
  rw [u8_to (by omega), u8_to (by omega)]
  congr 2; omega
structure Ino where
  k : UInt8
  n : UInt8
  s : UInt32
  d0 : UInt16
  d1 : UInt16
  d2 : UInt16
  d3 : UInt16
  p : UInt16
  q : UInt16
def Ino.zero : Ino := ⟨0, 0, 0, 0, 0, 0, 0, 0, 0⟩
def Ino.cs (x : Ino) : List Value := [.int .u8 (x.k.toNat : Int), .int .u8 (x.n.toNat : Int), .int .u32 (x.s.toNat : Int), .int .u16 (x.d0.toNat : Int), .int .u16 (x.d1.toNat : Int), .int .u16 (x.d2.toNat : Int), .int .u16 (x.d3.toNat : Int), .int .u16 (x.p.toNat : Int), .int .u16 (x.q.toNat : Int)]
theorem Ino.cs_one (x : Ino) : ∀ v ∈ x.cs, v.oneCell' = true := by
  intro v hv
  simp only [Ino.cs, List.mem_cons, List.not_mem_nil, or_false] at hv
  rcases hv with rfl | rfl | rfl | rfl | rfl | rfl | rfl | rfl | rfl <;> rfl
def iL (x : Ino) : List UInt8 := [x.k, x.n] ++ u4 x.s.toNat ++ lo2 x.d0.toNat ++ lo2 x.d1.toNat ++ lo2 x.d2.toNat ++ lo2 x.d3.toNat ++ lo2 x.p.toNat ++ lo2 x.q.toNat
theorem iL_len (x : Ino) : (iL x).length = 18 := rfl
def pt (l : List UInt8) (k : Nat) : UInt16 := UInt16.ofNat (at2 l k)
def qt (l : List UInt8) (k : Nat) : UInt32 := UInt32.ofNat (get4 l k)
def gI (l : List UInt8) : Ino := ⟨l.getD 0 0, l.getD 1 0, qt l 2, pt l 6, pt l 8, pt l 10, pt l 12, pt l 14, pt l 16⟩
theorem u16_back (x : UInt16) : UInt16.ofNat ((UInt8.ofNat (x.toNat % 256)).toNat + 256 * (UInt8.ofNat (x.toNat / 256 % 256)).toNat) = x := by
  have := x.toNat_lt
  rw [back2 _ (by omega)]; exact UInt16.ofNat_toNat
theorem u32_back (x : UInt32) : UInt32.ofNat (num4 (UInt8.ofNat (x.toNat % 256)) (UInt8.ofNat (x.toNat / 256 % 256)) (UInt8.ofNat (x.toNat / 65536 % 256)) (UInt8.ofNat (x.toNat / 16777216 % 256))) = x := by
  have := x.toNat_lt
  rw [num4_u4 (by omega)]; exact UInt32.ofNat_toNat
theorem gI_iL (x : Ino) : gI (iL x) = x := by
  obtain ⟨k, n, s, d0, d1, d2, d3, p, q⟩ := x
  show Ino.mk k n (UInt32.ofNat (num4 _ _ _ _)) (UInt16.ofNat (_ + 256 * _)) (UInt16.ofNat (_ + 256 * _)) (UInt16.ofNat (_ + 256 * _)) (UInt16.ofNat (_ + 256 * _)) (UInt16.ofNat (_ + 256 * _)) (UInt16.ofNat (_ + 256 * _)) = _
  congr 1
  · exact u32_back s
  · exact u16_back d0
  · exact u16_back d1
  · exact u16_back d2
  · exact u16_back d3
  · exact u16_back p
  · exact u16_back q
abbrev isSl (k : Int) : Prop := 0 ≤ k ∧ k ≤ 2
def slE (k : Int) : Int := if isSl k then 0 else 2
def slot (p : Ld) (j : Nat) : List UInt8 := (p.l.drop (18 * j)).take 18
theorem slot_len (p : Ld) (j : Nat) (h : j ≤ 2) : (slot p j).length = 18 := by
  have := p.len; unfold slot; simp only [List.length_take, List.length_drop]; omega
def aI (p : Ld) (k : Int) : Ino := if isSl k then gI (slot p k.toNat) else Ino.zero
abbrev isF (f : Int) : Prop := 0 ≤ f ∧ f ≤ 9
def fAt (f : Nat) : Nat := [0, 1, 2, 6, 8, 10, 12, 14, 16, 2].getD f 0
def fSz (f : Nat) : Nat := [18, 1, 4, 2, 2, 2, 2, 2, 2, 16].getD f 0
theorem f_le (f : Nat) (h : f ≤ 9) : fAt f + fSz f ≤ 18 ∧ 1 ≤ fSz f := by
  have : f = 0 ∨ f = 1 ∨ f = 2 ∨ f = 3 ∨ f = 4 ∨ f = 5 ∨ f = 6 ∨ f = 7 ∨ f = 8 ∨ f = 9 := by omega
  rcases this with rfl | rfl | rfl | rfl | rfl | rfl | rfl | rfl | rfl | rfl <;> decide
def oA (k f : Int) : Int := if isSl k ∧ isF f then 18 * k + fAt f.toNat else 0
def oZ (k f : Int) : Int := if isSl k ∧ isF f then fSz f.toNat else 0
def oE (k f : Int) : Int := if isSl k ∧ isF f then 0 else 2
def fPart (x : Ino) (f : Nat) : List UInt8 := ((iL x).drop (fAt f)).take (fSz f)
def fB (x : Ino) (f : Int) : List UInt8 := if isF f then fPart x f.toNat else []
theorem fPart_len (x : Ino) (f : Nat) (h : f ≤ 9) : (fPart x f).length = fSz f := by
  have := f_le f h; have := iL_len x; unfold fPart; simp only [List.length_take, List.length_drop]; omega
set_option maxRecDepth 100000
theorem ar18 : Arr 104 18 := ⟨by kernel_rfl, by kernel_rfl, fun w => (zero_of_info (v := .agg (cells (List.replicate 18 0)).toArray) (n := 18) (by kernel_rfl)).1 w⟩
theorem ar4 : Arr 206 4 := ⟨by kernel_rfl, by kernel_rfl, fun w => (zero_of_info (v := .agg (cells (List.replicate 4 0)).toArray) (n := 4) (by kernel_rfl)).1 w⟩
theorem ar2 : Arr 229 2 := ⟨by kernel_rfl, by kernel_rfl, fun w => (zero_of_info (v := .agg (cells (List.replicate 2 0)).toArray) (n := 2) (by kernel_rfl)).1 w⟩
theorem srtI : Srt 26 9 Ino.zero.cs :=
  ⟨⟨_, Tryz.underlying26, rfl⟩, by kernel_rfl, fun w => (zero_of_info (v := .agg Ino.zero.cs.toArray) (n := 9) (by kernel_rfl)).1 w, rfl, Ino.cs_one _⟩
theorem build0 (w : World) : (Instr.build 26 #[]).run Tryz.prog w = .ok (.agg Ino.zero.cs.toArray) w := by kernel_rfl
theorem build2I (a b : UInt8) (w : World) : (Instr.build 26 #[(0, .int .u8 (a.toNat : Int)), (1, .int .u8 (b.toNat : Int))]).run Tryz.prog w = .ok (.agg (Ino.mk a b 0 0 0 0 0 0 0).cs.toArray) w := by kernel_rfl
abbrev Ino.same (x y : Ino) : Prop := x.k.toNat = y.k.toNat ∧ x.n.toNat = y.n.toNat ∧ x.s.toNat = y.s.toNat ∧ x.d0.toNat = y.d0.toNat ∧ x.d1.toNat = y.d1.toNat ∧ x.d2.toNat = y.d2.toNat ∧ x.d3.toNat = y.d3.toNat ∧ x.p.toNat = y.p.toNat ∧ x.q.toNat = y.q.toNat
def Ino.sameB (x y : Ino) : Bool := decide (x.same y)
theorem same_self (x : Ino) : x.sameB x = true := decide_eq_true ⟨rfl, rfl, rfl, rfl, rfl, rfl, rfl, rfl, rfl⟩
def Ino.lits (x : Ino) : List Lit := [.int .u8 (x.k.toNat : Int), .int .u8 (x.n.toNat : Int), .int .u32 (x.s.toNat : Int), .int .u16 (x.d0.toNat : Int), .int .u16 (x.d1.toNat : Int), .int .u16 (x.d2.toNat : Int), .int .u16 (x.d3.toNat : Int), .int .u16 (x.p.toNat : Int), .int .u16 (x.q.toNat : Int)]
theorem wf8 (x : UInt8) : (Lit.int .u8 (x.toNat : Int)).wf = true := by
  have := x.toNat_lt; simp [Lit.wf, IntKind.min, IntKind.max, IntKind.bits, IntKind.signed]; omega
theorem wf16 (x : UInt16) : (Lit.int .u16 (x.toNat : Int)).wf = true := by
  have := x.toNat_lt; simp [Lit.wf, IntKind.min, IntKind.max, IntKind.bits, IntKind.signed]; omega
theorem wf32 (x : UInt32) : (Lit.int .u32 (x.toNat : Int)).wf = true := by
  have := x.toNat_lt; simp [Lit.wf, IntKind.min, IntKind.max, IntKind.bits, IntKind.signed]; omega
theorem keyI2 (x : Ino) : Tryz.prog.keyLits 4 26 (Value.agg x.cs.toArray).cells.toList = some x.lits := by
  have f0 : Tryz.prog.underlying 26 = _ := Tryz.underlying26
  have f1 : Tryz.prog.underlying 5 = _ := Tryz.underlying5
  have f2 : Tryz.prog.underlying 22 = _ := Tryz.underlying22
  have f3 : Tryz.prog.underlying 23 = _ := Tryz.underlying23
  have f4 : Tryz.prog.underlying 24 = _ := Tryz.underlying24
  have c0 : Tryz.prog.cellsOf 26 = 9 := by kernel_rfl
  have c1 : Tryz.prog.cellsOf 5 = 1 := by kernel_rfl
  have c2 : Tryz.prog.cellsOf 22 = 1 := by kernel_rfl
  have c3 : Tryz.prog.cellsOf 23 = 1 := by kernel_rfl
  have c4 : Tryz.prog.cellsOf 24 = 4 := by kernel_rfl
  simp [Program.keyLits, f0, f1, f2, f3, f4, c0, c1, c2, c3, c4, Value.cells, Ino.cs, wf8, wf16, wf32, List.range_succ, Ino.lits]
theorem eqI (x y : Ino) (w : World) : (Op.equalIn 10000 26 (.agg x.cs.toArray) (.agg y.cs.toArray)).run Tryz.prog w = .ok (x.sameB y) w := by
  obtain ⟨r, h1, h2⟩ := run_equalIn_deep (P := Tryz.prog) 9996 4 26 (by kernel_rfl) w 4 4 (.agg x.cs.toArray) (.agg y.cs.toArray) x.lits y.lits (by kernel_rfl) (by kernel_rfl) (keyI2 x) (keyI2 y)
  rw [h1]
  congr 1
  have e : x.lits = y.lits ↔ x.same y := by
    unfold Ino.lits
    simp only [List.cons.injEq, Lit.int.injEq, true_and, and_true, Int.natCast_inj, Ino.same]
  rw [e] at h2
  rw [Bool.eq_iff_iff, h2, Ino.sameB, decide_eq_true_eq]
theorem guardI : Tryz.prog.eqGuardType Tryz.prog.depth 26 = false := by kernel_rfl
section
variable {ops : Array Oper} {rest : List Oper} {o : Oper} {a : Act} {w : World} {Q : Exit → Act → World → Prop}
theorem at_getRg (T m : Nat) (hT : ∃ d, Tryz.prog.underlying T = some d ∧ d.isRow = true) (hs : (Tryz.prog.info? T).map (·.size) = some m) (hw : Region.wanted o (yielded ops a.tmps) = true) (x : Operand) (ho : o.op = .load T x) (g i : Nat) (hx : a.eval x = .pointer (some ⟨g, i, none⟩)) (part : List Value) (hr : w.rangeAt g i part) (hl : part.length = m)
    (h : wpList Tryz.prog ops Q rest (a.put o.dst (.agg part.toArray)) w) : wpList Tryz.prog ops Q (o :: rest) a w := by
  refine op_val hw _ _ ?_ h
  obtain ⟨d, h1, h2⟩ := hT
  have : (loadVar T ⟨g, i, none⟩).run Tryz.prog w = .ok (.agg part.toArray) w := run_loadVar_mid w g i _ part _ hr h1 h2 (by rw [hs]; simp [hl])
  simp [execOp, ho, hx, Instr.loadAt, Instr.sureAddr, this]
theorem at_idx0 (hw : Region.wanted o (yielded ops a.tmps) = true) (x y : Operand) (ho : o.op = .index 24 x y) (v0 v1 v2 v3 v : Value) (i : Nat) (hx : a.eval x = .agg #[v0, v1, v2, v3]) (hy : a.eval y = .int .i64 (i : Int)) (hv : ∀ w, (Instr.index 24 (.agg #[v0, v1, v2, v3]) (.int .i64 (i : Int))).run Tryz.prog w = .ok v w)
    (h : wpList Tryz.prog ops Q rest (a.put o.dst v) w) : wpList Tryz.prog ops Q (o :: rest) a w := by
  refine op_val hw _ _ ?_ h
  simp only [execOp, ho, hx, hy, Sem.run_bind, hv]; rfl
theorem at_bld0 (hw : Region.wanted o (yielded ops a.tmps) = true) (ho : o.op = .build 26 #[]) (h : wpList Tryz.prog ops Q rest (a.put o.dst (.agg Ino.zero.cs.toArray)) w) : wpList Tryz.prog ops Q (o :: rest) a w := by
  refine op_val hw _ _ ?_ h
  simp only [execOp, ho, Sem.run_bind, List.map_toArray, List.map_nil, build0]; rfl
theorem at_bld2 (hw : Region.wanted o (yielded ops a.tmps) = true) (x y : Operand) (ho : o.op = .build 26 #[(0, x), (1, y)]) (c d : UInt8) (hx : a.eval x = .int .u8 (c.toNat : Int)) (hy : a.eval y = .int .u8 (d.toNat : Int))
    (h : wpList Tryz.prog ops Q rest (a.put o.dst (.agg (Ino.mk c d 0 0 0 0 0 0 0).cs.toArray)) w) : wpList Tryz.prog ops Q (o :: rest) a w := by
  refine op_val hw _ _ ?_ h
  simp [execOp, ho, hx, hy, build2I]
theorem at_boxI (hw : Region.wanted o (yielded ops a.tmps) = true) (y : Operand) (ho : o.op = .box 26 y) (x : Ino) (hx : a.eval y = .agg x.cs.toArray)
    (h : ∀ g w', w.heap.size ≤ g → g < w'.heap.size → Cs w' g x.cs → Below w.heap.size w w' → wpList Tryz.prog ops Q rest (a.put o.dst (.pointer (some ⟨g, 0, none⟩))) w') : wpList Tryz.prog ops Q (o :: rest) a w :=
  at_boxC 26 hw y ho x.cs hx x.cs_one h
theorem at_newI (hw : Region.wanted o (yielded ops a.tmps) = true) (ho : o.op = .alloc 26)
    (h : ∀ g w', w.heap.size ≤ g → g < w'.heap.size → Cs w' g Ino.zero.cs → Below w.heap.size w w' → wpList Tryz.prog ops Q rest (a.put o.dst (.pointer (some ⟨g, 0, none⟩))) w') : wpList Tryz.prog ops Q (o :: rest) a w :=
  at_newC 26 9 Ino.zero.cs srtI hw ho h
theorem at_getI (hw : Region.wanted o (yielded ops a.tmps) = true) (y : Operand) (ho : o.op = .load 26 y) (g : Nat) (hx : a.eval y = .pointer (some ⟨g, 0, none⟩)) (x : Ino) (hR : Cs w g x.cs)
    (h : wpList Tryz.prog ops Q rest (a.put o.dst (.agg x.cs.toArray)) w) : wpList Tryz.prog ops Q (o :: rest) a w :=
  at_getC 26 9 Ino.zero.cs srtI hw y ho g hx x.cs hR rfl h
theorem at_putI (hw : Region.wanted o (yielded ops a.tmps) = true) (y z : Operand) (ho : o.op = .store 26 y z) (g : Nat) (hx : a.eval y = .pointer (some ⟨g, 0, none⟩)) (x : Ino) (hy : a.eval z = .agg x.cs.toArray) (x0 : Ino) (hR : Cs w g x0.cs)
    (h : ∀ w', Cs w' g x.cs → Stp (fun x => x = g) w w' → wpList Tryz.prog ops Q rest (a.put o.dst undef) w') : wpList Tryz.prog ops Q (o :: rest) a w :=
  at_putC 26 9 Ino.zero.cs srtI hw y z ho g hx x.cs hy rfl x.cs_one x0.cs hR rfl h
end
section
variable {ops : Array Oper} {o : Oper} {a : Act} {w : World} {S : World → Prop}
theorem yields_I (hw : Region.wanted o (yielded ops a.tmps) = true) (y : Operand) (ho : o.op = .load 26 y) (g : Nat) (hx : a.eval y = .pointer (some ⟨g, 0, none⟩)) (x : Ino) (hS : ∀ w, S w → Cs w g x.cs) :
    YieldsIf Tryz.prog ops S o (.agg x.cs.toArray) a :=
  yields_C 26 9 Ino.zero.cs srtI hw y ho g hx x.cs rfl hS
end
section
variable {ops : Array Oper} {o : Oper} {a : Act} {w : World} {K : Act → World → Prop} {Q : Exit → Act → World → Prop} {E : Prop}
theorem step_byte (hgd : o.guard = none) (x y : Operand) (ho : o.op = .store 5 x y) (g i : Nat) (hx : a.eval x = .pointer (some ⟨g, i, none⟩)) (z : UInt8) (hy : a.eval y = .int .u8 (z.toNat : Int)) (l : List UInt8) (hR : Row w g l) (hi : i < l.length)
    (h : ∀ w', Row w' g (l.set i z) → Stp (fun x => x = g) w w' → K (a.put o.dst undef) w') : if Region.wanted o (yielded ops a.tmps) = true then Oper.wp Tryz.prog o a w K Q else E := by
  have hw : Region.wanted o (yielded ops a.tmps) = true := by simp [Region.wanted, hgd]
  rw [if_pos hw]
  have hc := hR.cell i hi
  have hf := hR.frozen i
  have hs : (Tryz.prog.info? 5).map (·.size) = some 1 := by kernel_rfl
  have hu : Tryz.prog.underlying 5 = some (.int .u8) := by kernel_rfl
  have hr : (execOp a.eval o).run Tryz.prog w = .ok .skip (w.setCell ⟨g, i, none⟩ (.int .u8 (z.toNat : Int))) := by
    simp [execOp, ho, hx, hy, Instr.storeAt, Instr.sureAddr]
    go_simp
  unfold Oper.wp
  rw [hr]
  exact h _ (hR.set i z) ((Stp.refl (fun x => x = g) w).setCell (p := ⟨g, i, none⟩) (.inl rfl) _)
end
theorem szU16 (w : World) : (sizeOf 23).run Tryz.prog w = .ok 1 w := by kernel_rfl
theorem szU32 (w : World) : (sizeOf 22).run Tryz.prog w = .ok 1 w := by kernel_rfl
theorem rowD : ∃ d, Tryz.prog.underlying 24 = some d ∧ d.isRow = true := ⟨_, Tryz.underlying24, rfl⟩
theorem szD : (Tryz.prog.info? 24).map (·.size) = some 4 := by kernel_rfl
set_option maxRecDepth 100000
theorem isSlot_any (k : Int) (w : World) : Calls Tryz.prog 39 #[.int .i64 k] w fun e w' => e = .returned (.bool (decide (isSl k))) ∧ w = w' := by
  by_cases h0 : 0 ≤ k
  · by_cases h1 : k < 3
    · rw [decide_eq_true (show isSl k from ⟨h0, by omega⟩)]
      go_enter Tryz.func39, Tryz.ntmps39
      go_wp2
      go_returns
      exact ⟨rfl, rfl⟩
    · rw [decide_eq_false (show ¬ isSl k from fun h => by have := h.2; omega)]
      go_enter Tryz.func39, Tryz.ntmps39
      go_wp2
      go_returns
      exact ⟨rfl, rfl⟩
  · rw [decide_eq_false (show ¬ isSl k from fun h => h0 h.1)]
    go_enter Tryz.func39, Tryz.ntmps39
    go_wp2
    go_returns
    exact ⟨rfl, rfl⟩
theorem isField_any (k : Int) (w : World) : Calls Tryz.prog 69 #[.int .i64 k] w fun e w' => e = .returned (.bool (decide (isF k))) ∧ w = w' := by
  by_cases h0 : 0 ≤ k
  · by_cases h1 : k < 10
    · rw [decide_eq_true (show isF k from ⟨h0, by omega⟩)]
      go_enter Tryz.func69, Tryz.ntmps69
      go_wp2
      go_returns
      exact ⟨rfl, rfl⟩
    · rw [decide_eq_false (show ¬ isF k from fun h => by have := h.2; omega)]
      go_enter Tryz.func69, Tryz.ntmps69
      go_wp2
      go_returns
      exact ⟨rfl, rfl⟩
  · rw [decide_eq_false (show ¬ isF k from fun h => h0 h.1)]
    go_enter Tryz.func69, Tryz.ntmps69
    go_wp2
    go_returns
    exact ⟨rfl, rfl⟩
set_option maxRecDepth 100000
def Tb (w : World) : Prop := ∀ f, f ≤ 9 → w.cell? ⟨0, f * 2, none⟩ = some (.int .i64 (fAt f : Nat)) ∧ w.cell? ⟨0, f * 2 + 1, none⟩ = some (.int .i64 (fSz f : Nat))
theorem Tb.later {w w' : World} (h : Tb w) (k : Below w.heap.size w w') : Tb w' := fun f hf =>
  ⟨(Stp.of_below k (fun _ => False)).cell (h f hf).1 id, (Stp.of_below k (fun _ => False)).cell (h f hf).2 id⟩
theorem Tb.step {w w' : World} {F : Nat → Prop} (h : Tb w) (k : Stp F w w') (h0 : ¬ F 0) : Tb w' := fun f hf =>
  ⟨k.cell (h f hf).1 h0, k.cell (h f hf).2 h0⟩
abbrev spn (a n : Nat) : List Value := [.int .i64 (a : Int), .int .i64 (n : Int)]
theorem spn_one (a n : Nat) : ∀ v ∈ spn a n, v.oneCell' = true := by
  intro v hv; simp only [List.mem_cons, List.not_mem_nil, or_false] at hv
  rcases hv with rfl | rfl <;> rfl
theorem srtPI : Srt 160 2 (spn 0 0) :=
  ⟨⟨_, Tryz.underlying160, rfl⟩, by kernel_rfl, fun w => (zero_of_info (v := .agg (spn 0 0).toArray) (n := 2) (by kernel_rfl)).1 w, rfl, spn_one 0 0⟩
theorem Tb.range {w : World} (h : Tb w) (f : Nat) (hf : f ≤ 9) : w.rangeAt 0 (f * 2) (spn (fAt f) (fSz f)) := fun j v hv => by
  obtain ⟨h1, h2⟩ := h f hf
  match j, hv with
  | 0, hv => simp at hv; subst hv; exact h1
  | 1, hv => simp at hv; subst hv; exact h2
  | j + 2, hv => simp at hv
set_option maxRecDepth 100000 in
set_option maxHeartbeats 1000000 in
theorem offset_ok (k f : Nat) (w : World) (hk : k ≤ 2) (hf : f ≤ 9) (hT : Tb w) :
    Calls Tryz.prog 41 #[.int .i64 (k : Int), .int .i64 (f : Int)] w fun e w' => e = .returned (.tuple #[.int .i64 ((18 * k + fAt f : Nat) : Int), .int .i64 (fSz f : Nat), .int .i64 0]) ∧ Below w.heap.size w w' := by
  have H1 := isSlot_any (k : Int)
  have H2 := isField_any (f : Int)
  rw [decide_eq_true (show isSl k from ⟨by omega, by omega⟩)] at H1
  rw [decide_eq_true (show isF f from ⟨by omega, by omega⟩)] at H2
  have hr := hT.range f hf
  have hle := f_le f hf
  go_enter Tryz.func41, Tryz.ntmps41
  go_wp2_with (first
    | (go_at_call 39; refine (H1 _).mono ?_; rintro e u ⟨rfl, rfl⟩)
    | (go_at_call 69; refine (H2 _).mono ?_; rintro e u ⟨rfl, rfl⟩)
    | (refine at_getRg 160 2 srtPI.und srtPI.size (by rfl) _ (by rfl) 0 (f * 2) (by rfl) (spn (fAt f) (fSz f)) hr rfl ?_)
    | (refine at_newC 160 2 (spn 0 0) srtPI (by rfl) (by rfl) ?_; intro gs w3 a3 z3 r3 b3)
    | (refine at_putC 160 2 (spn 0 0) srtPI (by rfl) _ _ (by rfl) gs (by rfl) (spn (fAt f) (fSz f)) (by rfl) rfl (spn_one _ _) _ r3 rfl ?_; intro w4 r4 s4
       have c0 := r4.cell 0 _ rfl
       have c1 := r4.cell 1 _ rfl))
  have S4 : Stp (fun y => w.heap.size ≤ y) w w4 := (Stp.of_below b3 _).next s4 (fun y hy => .inl (by subst hy; exact a3))
  clear hr r3 b3 s4 H1 H2 hT
  have eW : Hid (IntKind.i64.wrap (IntKind.i64.wrap ((k : Int) * 18) + (fAt f : Nat)) = ((18 * k + fAt f : Nat) : Int)) := by
    show _ = _
    rw [IntKind.wrap_i64, IntKind.wrap_i64]; omega
  go_quiet (fail)
  go_wp2_with fail
  go_returns
  refine ⟨?_, (S4.drewN _).below (Nat.le_refl _) (fun _ h => h)⟩
  show Ending.returned (.tuple #[.int .i64 (IntKind.i64.wrap (IntKind.i64.wrap ((k : Int) * 18) + (fAt f : Nat))), _, _]) = _
  rw [eW.out]; rfl
theorem offset_no (k f : Int) (w : World) (h : ¬ (isSl k ∧ isF f)) :
    Calls Tryz.prog 41 #[.int .i64 k, .int .i64 f] w fun e w' => e = .returned (.tuple #[.int .i64 0, .int .i64 0, .int .i64 2]) ∧ Below w.heap.size w w' := by
  have H1 := isSlot_any k
  have H2 := isField_any f
  by_cases hk : isSl k
  · have hf : ¬ isF f := fun e => h ⟨hk, e⟩
    rw [decide_eq_true hk] at H1
    rw [decide_eq_false hf] at H2
    clear h hk hf
    go_enter Tryz.func41, Tryz.ntmps41
    go_wp2_with (first
      | (go_at_call 39; refine (H1 _).mono ?_; rintro e u ⟨rfl, rfl⟩)
      | (go_at_call 69; refine (H2 _).mono ?_; rintro e u ⟨rfl, rfl⟩))
    go_returns
    exact ⟨rfl, Below.refl _ _⟩
  · rw [decide_eq_false hk] at H1
    clear h hk
    go_enter Tryz.func41, Tryz.ntmps41
    go_wp2_with (first
      | (go_at_call 39; refine (H1 _).mono ?_; rintro e u ⟨rfl, rfl⟩)
      | (go_at_call 69; refine (H2 _).mono ?_; rintro e u ⟨rfl, rfl⟩))
    go_returns
    exact ⟨rfl, Below.refl _ _⟩
theorem offset_any (k f : Int) (w : World) (hT : Tb w) :
    Calls Tryz.prog 41 #[.int .i64 k, .int .i64 f] w fun e w' => e = .returned (.tuple #[.int .i64 (oA k f), .int .i64 (oZ k f), .int .i64 (oE k f)]) ∧ Below w.heap.size w w' := by
  unfold oA oZ oE
  by_cases h : isSl k ∧ isF f
  · rw [if_pos h, if_pos h, if_pos h]
    obtain ⟨⟨k0, k2⟩, ⟨f0, f9⟩⟩ := h
    obtain ⟨k', rfl⟩ := Int.eq_ofNat_of_zero_le k0
    obtain ⟨f', rfl⟩ := Int.eq_ofNat_of_zero_le f0
    have := offset_ok k' f' w (by omega) (by omega) hT
    rw [show ((18 * k' + fAt f' : Nat) : Int) = 18 * (k' : Int) + (fAt f' : Nat) by omega] at this
    exact this
  · rw [if_neg h, if_neg h, if_neg h]
    exact offset_no k f w h
set_option maxRecDepth 100000
theorem cells_lo2 {x : Nat} (h : x < 65536) : cells (lo2 x) = [.int .u8 ((x : Int) % 256), .int .u8 ((x : Int) / 256)] := by
  have e : cells (lo2 x) = (ints (lo2 x)).map (Value.int .u8) := by unfold cells ints; rw [List.map_map]; rfl
  rw [e, ints_lo2 h]; rfl
theorem cells_w4 {x : Nat} (h : x < 4294967296) : cells (u4 x) = [.int .u8 ((x : Int) % 256), .int .u8 ((x : Int) / 256 % 256), .int .u8 ((x : Int) / 65536 % 256), .int .u8 ((x : Int) / 16777216)] := by
  have e : cells (u4 x) = (ints (u4 x)).map (Value.int .u8) := by unfold cells ints; rw [List.map_map]; rfl
  rw [e, ints_u4 h]; rfl
theorem le2_at2 (l : List UInt8) (k : Nat) : le2 (ints l) k = ((at2 l k : Nat) : Int) := by
  unfold le2 at2
  rw [ints_getD, ints_getD]; omega
theorem le4_get4 (l : List UInt8) (k : Nat) : le4 (ints l) k = ((get4 l k : Nat) : Int) := by
  unfold le4 get4 num4
  rw [ints_getD, ints_getD, ints_getD, ints_getD]; omega
theorem put16_w (x : UInt16) (w : World) : Calls Tryz.prog 130 #[.int .u16 (x.toNat : Int)] w fun e w' => e = .returned (.agg (cells (lo2 x.toNat)).toArray) ∧ Below w.heap.size w w' := by
  have := x.toNat_lt
  rw [cells_lo2 (by omega)]
  exact put16_any _ w (by omega) (by omega)
theorem put32_w (x : UInt32) (w : World) : Calls Tryz.prog 100 #[.int .u32 (x.toNat : Int)] w fun e w' => e = .returned (.agg (cells (u4 x.toNat)).toArray) ∧ Below w.heap.size w w' := by
  have := x.toNat_lt
  rw [cells_w4 (by omega)]
  exact put32_any _ w (by omega) (by omega)
theorem of16 {n : Nat} (h : n < 65536) : ((UInt16.ofNat n).toNat : Int) = (n : Int) := by
  rw [UInt16.toNat_ofNat']; omega
theorem of32 {n : Nat} (h : n < 4294967296) : ((UInt32.ofNat n).toNat : Int) = (n : Int) := by
  rw [UInt32.toNat_ofNat']; omega
theorem get16_w (a : Option Addr) (n c : Nat) (l : List UInt8) (k : Nat) (w : World) (hb : Bs w a n c (ints l)) (h : k + 2 ≤ n) :
    Calls Tryz.prog 92 #[.slice a n c, .int .i64 (k : Int)] w fun e w' => e = .returned (.tuple #[.int .u16 ((pt l k).toNat : Int), .int .i64 0]) ∧ w = w' := by
  rw [pt, of16 (at2_lt l k), ← le2_at2]
  exact get16_ok a n c _ k w hb h
theorem get32_w (a : Option Addr) (n c : Nat) (l : List UInt8) (k : Nat) (w : World) (hb : Bs w a n c (ints l)) (h : k + 4 ≤ n) :
    Calls Tryz.prog 67 #[.slice a n c, .int .i64 (k : Int)] w fun e w' => e = .returned (.tuple #[.int .u32 ((qt l k).toNat : Int), .int .i64 0]) ∧ w = w' := by
  rw [qt, of32 (get4_lt l k), ← le4_get4]
  exact get32_ok a n c _ k w hb h
set_option maxRecDepth 100000 in
theorem putPointer_any (g k : Nat) (x : UInt16) (l : List UInt8) (w : World) (hR : Row w g l) (hl : l.length = 18) (hk : k + 2 ≤ 18) :
    Calls Tryz.prog 101 #[.pointer (some ⟨g, 0, none⟩), .int .i64 (k : Int), .int .u16 (x.toNat : Int)] w fun e w' => e = .returned (.tuple #[]) ∧ Row w' g (splice l k (lo2 x.toNat)) ∧ Stp (fun y => y = g) w w' := by
  have hsub := fun w => run_subL ar18 w g k (by omega)
  have hl2 : (lo2 x.toNat).length = 2 := rfl
  go_enter Tryz.func101, Tryz.ntmps101
  go_wp2_with (first
    | (go_at_call 130; refine (put16_w x _).mono ?_; rintro e w1 ⟨rfl, b1⟩)
    | (refine at_new 229 2 ar2 (by rfl) (by rfl) ?_; intro g2 w2 a2 z2 r2 b2)
    | (refine at_put 229 2 ar2 (by rfl) _ _ (by rfl) g2 (by rfl) (lo2 x.toNat) (by rfl) hl2 _ r2 (by simp) ?_; intro w3 r3 s3))
  have B2 := bnext b1 b2 (Nat.le_refl _)
  have hg2 : w.heap.size ≤ g2 := by have := b1.size; omega
  have hRg : Row w3 g l := (hR.later B2).step s3 (by have := hR.lt; omega)
  have S3 : Stp (fun y => y = g) w w3 := (Stp.of_below B2 _).next s3 (fun y hy => .inr (by subst hy; exact hg2))
  go_region_law (refine step_copyR rfl (.tmp 12) (.tmp 13) rfl g k (18 - k) (18 - k) g2 2 2 (by simp [Act.eval, Act.put]) (by simp [Act.eval, Act.put]) l (lo2 x.toNat) (hRg.later (by go_grown)) (r3.later (by go_grown)) (by omega) (by omega) (Nat.le_refl 2) ?_; intro w4 r4 s4)
  go_wp2
  go_returns
  exact ⟨rfl, r4, S3.drew.next s4 (fun _ h => .inl h)⟩
theorem pointerAt_any (l : List UInt8) (k : Nat) (w : World) (hl : l.length = 18) (hk : k + 2 ≤ 18) :
    Calls Tryz.prog 68 #[.agg (cells l).toArray, .int .i64 (k : Int)] w fun e w' => e = .returned (.int .u16 ((pt l k).toNat : Int)) ∧ Below w.heap.size w w' := by
  go_enter Tryz.func68, Tryz.ntmps68
  go_wp2_with (first
    | (refine at_box 104 18 ar18 (by rfl) _ (by rfl) l (by rfl) hl ?_; intro g1 w1 a1 z1 r1 b1
       have y1 := r1.bs0 18 18 (by omega) (Nat.le_refl _) (by decide)
       rw [List.take_of_length_le (by omega)] at y1)
    | (go_at_call 92; refine (get16_w _ 18 18 l k _ y1 hk).mono ?_; rintro e w2 ⟨rfl, rfl⟩))
  go_returns
  exact ⟨rfl, b1⟩
end Go.Proofs.YtgdnhkdfcjpdiaaGreatDoor
