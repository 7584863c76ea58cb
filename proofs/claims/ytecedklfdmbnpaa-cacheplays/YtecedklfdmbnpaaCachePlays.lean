/-
  The statement CachePlays, proved: for every size and every slice of acts the law returns true, and what came in reads as it did; no condition.
-/
import Derived.Test.YtecedklfdmbnpaaRcL
namespace Go.Proofs.Ytecedklfdmbnpaa.cachePlays
open Go.ChangeShapes Go.WideShapes Go.ChangeAt Go.RowKit
set_option linter.unusedVariables false
set_option linter.unusedSimpArgs false

/-- What the loop keeps. -/
structure PlI (W : World) (gc g gp yc y q i : Nat) (wr : World) (Z : CZ) (U V : Nat → Prop) : Prop where
  t : Bt wr gc g gp yc y q Z U V
  ok : Z.ok (100 * i)
  ul : ∀ x, Uv U V x → W.heap.size ≤ x
  b : Below W.heap.size W wr
section
variable {W wr w1 : World} {gc g gp yc y q i : Nat} {Z : CZ} {U V : Nat → Prop}
theorem PlI.later (I : PlI W gc g gp yc y q i wr Z U V) (b1 : Below wr.heap.size wr w1) : PlI W gc g gp yc y q i w1 Z U V :=
  ⟨I.t.later b1, I.ok, I.ul, bnext I.b b1 (Nat.le_refl _)⟩
theorem PlI.own (I : PlI W gc g gp yc y q i wr Z U V) {x : Nat} (s : Stp (fun z => z = x) wr w1) (hx : ¬ Uv U V x) (h2 : W.heap.size ≤ x) : PlI W gc g gp yc y q i w1 Z U V :=
  ⟨I.t.own s hx, I.ok, I.ul, ((Stp.of_below I.b (fun x => W.heap.size ≤ x)).next s (fun y e => .inl (e ▸ h2))).below (Nat.le_refl _) (fun _ h => h)⟩
theorem PlI.turn (I : PlI W gc g gp yc y q i wr Z U V) (h : Left gc g gp yc y q U V (100 * i) wr w1) : ∃ Z' U' V', PlI W gc g gp yc y q (i + 1) w1 Z' U' V' := by
  obtain ⟨Z', U', V', h1, h2, h3, h4⟩ := h
  refine ⟨Z', U', V', h1, h2.mono (by omega), fun x hx => ?_, ((Stp.of_below I.b (fun x => W.heap.size ≤ x)).next h3 (fun x e => .inl (I.ul x e))).below (Nat.le_refl _) (fun _ h => h)⟩
  rcases h4 x hx with e | e
  · exact I.ul x e
  · exact Nat.le_trans I.b.size e.1
end
theorem pnew' (w : World) : Calls Try.prog 6 #[] w fun e w' => ∃ gp, e = .returned (.pointer (some ⟨gp, 0, none⟩)) ∧ w.heap.size ≤ gp ∧ gp < w'.heap.size ∧ Below w.heap.size w w' ∧ Pw w' gp PS.fresh :=
  (pnew_any w).mono (fun e w' ⟨h1, h2, h3, h4⟩ => ⟨_, h1, Nat.le_refl _, by omega, h2, h3⟩)
theorem rnew' (w : World) : Calls Try.prog 7 #[] w fun e w' => ∃ q, e = .returned (.pointer (some ⟨q, 0, none⟩)) ∧ w.heap.size ≤ q ∧ q < w'.heap.size ∧ Below w.heap.size w w' ∧ Rw w' q (ref PS.fresh) :=
  (rnew_any w).mono (fun e w' ⟨h1, h2, h3, h4⟩ => ⟨_, h1, Nat.le_refl _, by omega, h2, h3⟩)
theorem dnew' (gp : Nat) (w : World) : Calls Try.prog 8 #[.int .i64 6, .pointer (some ⟨gp, 0, none⟩)] w fun e w' => ∃ g F, e = .returned (.tuple #[.pointer (some ⟨g, 0, none⟩), .int .i64 0]) ∧ Below w.heap.size w w' ∧ Disk w' g (.pointer (some ⟨gp, 0, none⟩)) (DS.new 6) F ∧ (∀ x, F x → w.heap.size ≤ x ∧ x < w'.heap.size) :=
  (new_any 6 (some ⟨gp, 0, none⟩) w (by omega) (by omega)).mono (fun e w' ⟨h1, h2, h3, h4⟩ => ⟨_, _, h1, h2, h4, fun x hx => ⟨hx.1, by rw [h3]; exact hx.2⟩⟩)
/-- Both as they stand once made. -/
theorem made {w1 w2 w3 w4 w5 w6 W : World} {gc g gp yc y q N : Nat} {U F R : Nat → Prop} (p1 : W.heap.size ≤ gp) (p2 : gp < w1.heap.size) (q1 : w1.heap.size ≤ q) (q2 : q < w2.heap.size) (B : Below W.heap.size W w6) (s23 : w2.heap.size ≤ w3.heap.size) (s34 : w3.heap.size ≤ w4.heap.size)
    (hF : ∀ x, F x → w2.heap.size ≤ x ∧ x < w3.heap.size) (hR : ∀ x, R x → w3.heap.size ≤ x ∧ x < w4.heap.size) (hU : ∀ x, U x → F x ∨ x = gp ∨ w4.heap.size ≤ x) (hu : ∀ x, U x → x < w5.heap.size) (hy : w5.heap.size ≤ yc) (hN1 : 1 ≤ N) (hN2 : N ≤ 64)
    (c : Ca w6 gc g (.pointer (some ⟨gp, 0, none⟩)) (CZ.new (DS.new 6) (some PS.fresh) N) U) (r : Rx w6 yc y q (CZ.new (DS.new 6) (some PS.fresh) N) PS.fresh (.slice none 0 0) (fun x => x = yc) R) (s45 : w4.heap.size ≤ w5.heap.size) :
    PlI W gc g gp yc y q 0 w6 (CZ.new (DS.new 6) (some PS.fresh) N) U (Rl q (fun x => x = yc) R) := by
  refine ⟨⟨c, ⟨_, _, _, _, r, fun _ => Iff.rfl⟩, fun x hx hv => ?_⟩, (CZ.new_ok (t := 0) hN1 hN2 (fun i => Nat.le_refl _) (fun s h => by injection h with h; rw [← h]; exact fresh_ok)).mono (by omega), fun x hx => ?_, B⟩
  · have h0 := hU x hx
    have h1 := hu x hx
    rcases hv with e | e | e
    · have e : x = yc := e
      omega
    · have h2 := hR x e
      rcases h0 with a | a | a
      · have := hF x a; omega
      · omega
      · omega
    · rcases h0 with a | a | a
      · have := hF x a; omega
      · omega
      · omega
  · rcases hx with hx | e | e | e
    · rcases hU x hx with a | a | a
      · have := hF x a; omega
      · omega
      · omega
    · have e : x = yc := e
      omega
    · have h2 := hR x e; omega
    · omega
set_option maxRecDepth 100000 in
set_option maxHeartbeats 4000000 in
theorem walk (s : Int) (a : Option Addr) (n c : Nat) (l : List A3) (W : World) (ws : (Lit.int .i64 s).wf = true) (wa : A3s W a n c l) :
    Calls Try.prog 3 #[.int .i64 s, .slice a n c] W fun e w' => e = .returned (.bool true) ∧ Below W.heap.size W w' := by
  have hne := wa.len
  have e36 := eq36
  have g36 := guard36
  go_enter Try.func3, Try.ntmps3
  go_wp2_with (first
    | (go_at_call 6; refine (pnew' _).mono ?_; rintro e w1 ⟨gp, rfl, p1, p2, b1, pw1⟩)
    | (go_at_call 7; refine (rnew' _).mono ?_; rintro e w2 ⟨q, rfl, q1, q2, b2, rw2⟩)
    | (go_at_call 8; refine (dnew' gp _).mono ?_; rintro e w3 ⟨g, F, rfl, b3, d3, f3⟩)
    | (go_at_call 9; refine (rnew_disk 6 q _ (by omega) (by omega)).mono ?_; rintro e w4 ⟨y, R, rfl, b4, d4, f4⟩))
  clear e36
  have hD : DD w4 g (.pointer (some ⟨gp, 0, none⟩)) (DS.new 6) (some PS.fresh) F (fun x => x = gp) := by
    have h2 := b2.size; have h3 := b3.size; have h4 := b4.size
    refine ⟨d3.step (Stp.of_below b4 (fun _ => False)) (fun _ _ => id), ⟨gp, rfl, ?_, rfl⟩, fun x hx e => ?_, fun x e => ?_⟩
    · exact ((pw1.stp (Stp.of_below b2 (fun _ => False)) id).stp (Stp.of_below b3 (fun _ => False)) id).stp (Stp.of_below b4 (fun _ => False)) id
    · have := f3 x hx
      have e : x = gp := e
      omega
    · have e : x = gp := e
      omega
  have rw4 : Rw w4 q (ref PS.fresh) := (rw2.stp (Stp.of_below b3 (fun _ => False)) id).stp (Stp.of_below b4 (fun _ => False)) id
  have B4 : Below W.heap.size W w4 := bnext (bnext (bnext b1 b2 (Nat.le_refl _)) b3 (Nat.le_refl _)) b4 (Nat.le_refl _)
  have hz2 := b2.size
  have hz3 := b3.size
  have hz4 := b4.size
  have fr : ∀ x, R x → w3.heap.size ≤ x ∧ x < w4.heap.size := fun x hx => ⟨f4 x hx, d4.lt x hx⟩
  clear pw1 rw2 d3 b1 b2 b3 b4 f4
  by_cases hs : s < 1 ∨ 64 < s
  · have hb := cnew_bad (w := w4) (.pointer (some ⟨g, 0, none⟩)) s (.inr ⟨⟨g, rfl⟩, hs⟩)
    have hr := rcnew_bad (w := w4) y s hs
    clear hs hD rw4 d4
    go_wp2_with (first
      | (go_at_call 10; refine hb.mono ?_; rintro e u ⟨rfl, rfl⟩; clear hb)
      | (go_at_call 11; refine hr.mono ?_; rintro e u ⟨rfl, rfl⟩; clear hr))
    go_loopw [15] (fun v wr => v = .int .i64 0 ∧ Below W.heap.size W wr) (fun v _ => 0)
    case atStart => exact ⟨rfl, B4⟩
    case round =>
      clear B4
      obtain ⟨rfl, b⟩ := hrel
      by_cases h0 : (0 : Int) < (n : Int)
      · go_wp2_with (go_at_call 22; refine (cworks_any _).mono ?_; rintro e u ⟨rfl, b9⟩)
        go_returns
        exact ⟨rfl, bnext b b9 (Nat.le_refl _)⟩
      · go_wp2_with (go_at_call 22; refine (cworks_any _).mono ?_; rintro e u ⟨rfl, b9⟩)
        go_returns
        exact ⟨rfl, bnext b b9 (Nat.le_refl _)⟩
  · obtain ⟨N, rfl⟩ : ∃ N : Nat, s = (N : Int) := ⟨s.toNat, by omega⟩
    have hN1 : 1 ≤ N := by omega
    have hN2 : N ≤ 64 := by omega
    have hC := cnew_ca hD N hN1 hN2
    clear hs ws
    go_wp2_with (go_at_call 10; refine hC.mono ?_; rintro e w5 ⟨gc, U, rfl, c5, b5, u5⟩; clear hC)
    have hz5 := b5.size
    have hR := rcnew_good (d4.step (Stp.of_below b5 (fun _ => False)) (fun _ _ => id)) (rw4.stp (Stp.of_below b5 (fun _ => False)) id) (fun e => by have := fr q e; omega) (by omega) N hN1 hN2
    go_wp2_with (go_at_call 11; refine hR.mono ?_; rintro e w6 ⟨yc, rfl, y6, r6, b6⟩; clear hR)
    have start : PlI W gc g gp yc y q 0 w6 (CZ.new (DS.new 6) (some PS.fresh) N) U (Rl q (fun x => x = yc) R) :=
      made p1 p2 q1 q2 (bnext (bnext B4 b5 (Nat.le_refl _)) b6 (Nat.le_refl _)) hz3 hz4 f3 fr u5 c5.lt y6 hN1 hN2 (c5.later b6) r6 hz5
    clear hD rw4 d4 B4 c5 b5 u5 r6 b6 y6 f3 fr p1 p2 q1 q2 hz2 hz3 hz4 hz5
    go_loopw [15] (fun v wr => ∃ i : Nat, i ≤ 80 ∧ v = .int .i64 (i : Int) ∧ ∃ Z U V, PlI W gc g gp yc y q i wr Z U V) (fun v _ => 80 - (intOf v).toNat)
    case atStart => exact ⟨0, by omega, rfl, _, _, _, start⟩
    case round =>
      clear start
      obtain ⟨i, hi80, rfl, Z0, U0, V0, I0⟩ := hrel
      by_cases hlt : i < n ∧ i < 80
      · obtain ⟨hin, hi8⟩ := hlt
        have hin' : (i : Int) < (n : Int) := by omega
        have hi8' : (i : Int) < 80 := by omega
        obtain ⟨ab, ao, rfl, hac⟩ := (wa.later I0.b).cell (by omega)
        obtain ⟨x, hx, hrx, hxo⟩ := hac i hin
        have hDo := do_any I0.t I0.ok (by omega) x hxo
        clear hac
        go_wp2_with (first
          | (refine at_getA (by rfl) _ (by rfl) ab _ (by rfl) x hrx ?_)
          | (go_at_call 12; refine hDo.mono ?_; rintro e w7 ⟨rfl, l7⟩
             obtain ⟨Z, U', V', I⟩ := I0.turn l7
             clear hDo l7 I0 hrx hx
             have hCt := counts_ca I.t.a)
          | (go_at_call 13; refine hCt.mono ?_; rintro e w8 ⟨rfl, b8⟩; clear hCt))
        have I8 := I.later b8
        clear I b8
        obtain ⟨-, -, s, hsp, -⟩ := I8.t.b.counts
        have hct : ∀ u, Below w8.heap.size w8 u → u.cell? ⟨yc, 3, none⟩ = some (.int .i64 Z.h) ∧ u.cell? ⟨yc, 4, none⟩ = some (.int .i64 Z.m) ∧ u.cell? ⟨q, 1, none⟩ = some (.int .i64 s.used) := fun u hu => by
          obtain ⟨h1, h2, s', h3, h4⟩ := (I8.later hu).t.b.counts
          rw [hsp] at h3
          injection h3 with h3
          subst h3
          exact ⟨h1, h2, h4⟩
        have hK1 : (keys Z.l).length ≤ 1000000 := by rw [keys_len]; have := I8.ok.len; have := I8.ok.n2; omega
        have hK2 : Z.chg.length ≤ 1000000 := by have := chg_len I8.ok; omega
        have hHe := fun u (hu : Below w8.heap.size w8 u) => held_ca (I8.later hu).t.a I8.ok
        have hRh := fun u (hu : Below w8.heap.size w8 u) => rheld_ra (I8.later hu).t.b I8.ok
        have hCh := fun u (hu : Below w8.heap.size w8 u) => changed_ca (I8.later hu).t.a I8.ok
        have hRc := fun u (hu : Below w8.heap.size w8 u) => rchanged_ra (I8.later hu).t.b I8.ok
        have hUs := fun u (hu : Below w8.heap.size w8 u) => used_ca (I8.later hu).t.a hsp
        generalize keys Z.l = K1 at *
        generalize Z.chg = K2 at *
        generalize Z.h = zh at *
        generalize Z.m = zm at *
        generalize s.used = zu at *
        have hK1' : Hid (K1.length ≤ 1000000) := hK1
        have hK2' : Hid (K2.length ≤ 1000000) := hK2
        clear hK1 hK2 hsp
        refine wp_region_held_drew (S := fun u => Below w8.heap.size w8 u) (by kernel_rfl) (Below.refl _ w8).drew (fun hHeld => ?_)
        refine wpAnyH_take (i := 0) (oi := { dst := some 86, op := Op.move (Operand.tmp 16), type := 3, pos := _, after := #[], guard := none }) (v := .int .i64 zh) rfl (by kernel_rfl) (by kernel_rfl) (by kernel_rfl) (fun _ _ _ h => h) (Or.inl ⟨by rfl, ?_⟩) hHeld ?_
        · intro u hu
          go_simp
        try simp only [Act.put, List.setIfInBounds_toArray, List.set_cons_zero, List.set_cons_succ]
        refine wpAnyH_take (i := 1) (oi := { dst := some 87, op := Op.move (Operand.tmp 13), type := 37, pos := _, after := #[], guard := none }) (v := .pointer (some ⟨yc, 0, none⟩)) rfl (by kernel_rfl) (by kernel_rfl) (by kernel_rfl) (fun _ _ _ h => h) (Or.inl ⟨by rfl, ?_⟩) hHeld ?_
        · intro u hu
          go_simp
        try simp only [Act.put, List.setIfInBounds_toArray, List.set_cons_zero, List.set_cons_succ]
        refine wpAnyH_take (i := 2) (oi := { dst := some 88, op := Op.nilCheck (Operand.tmp 87), type := 0, pos := _, after := #[{ on := 1, ground := Ground.data }], guard := none }) (v := .pointer (some ⟨yc, 0, none⟩)) rfl (by kernel_rfl) (by kernel_rfl) (by kernel_rfl) (fun _ _ _ h => h) (Or.inl ⟨by rfl, ?_⟩) hHeld ?_
        · intro u hu
          go_simp
        try simp only [Act.put, List.setIfInBounds_toArray, List.set_cons_zero, List.set_cons_succ]
        refine wpAnyH_take (i := 3) (oi := { dst := some 89, op := Op.fieldAddr 49 (Operand.tmp 88) 3, type := 0, pos := _, after := #[{ on := 2, ground := Ground.data }], guard := none }) (v := .pointer (some ⟨yc, 3, none⟩)) rfl (by kernel_rfl) (by kernel_rfl) (by kernel_rfl) (fun _ _ _ h => h) (Or.inl ⟨by rfl, ?_⟩) hHeld ?_
        · intro u hu
          go_simp
        try simp only [Act.put, List.setIfInBounds_toArray, List.set_cons_zero, List.set_cons_succ]
        refine wpAnyH_take (i := 4) (oi := { dst := some 90, op := Op.load 3 (Operand.tmp 89), type := 3, pos := _, after := #[{ on := 3, ground := Ground.data }], guard := none }) (v := .int .i64 zh) rfl (by kernel_rfl) (by kernel_rfl) (by kernel_rfl) (fun _ _ _ h => h) (Or.inl ⟨by rfl, ?_⟩) hHeld ?_
        · intro u hu
          have z1 := (hct u hu).1; go_simp
        try simp only [Act.put, List.setIfInBounds_toArray, List.set_cons_zero, List.set_cons_succ]
        refine wpAnyH_take (i := 5) (oi := { dst := some 91, op := Op.binOp BinOp.neq 3 (Operand.tmp 86) (Operand.tmp 90) 3, type := 4, pos := _, after := #[{ on := 0, ground := Ground.data }, { on := 4, ground := Ground.data }], guard := none }) (v := .bool false) rfl (by kernel_rfl) (by kernel_rfl) (by kernel_rfl) (fun _ _ _ h => h) (Or.inl ⟨by rfl, ?_⟩) hHeld ?_
        · intro u hu
          go_simp
        try simp only [Act.put, List.setIfInBounds_toArray, List.set_cons_zero, List.set_cons_succ]
        refine wpAnyH_take (i := 6) (oi := { dst := some 92, op := Op.move (Operand.tmp 91), type := 4, pos := _, after := #[{ on := 5, ground := Ground.data }], guard := none }) (v := .bool false) rfl (by kernel_rfl) (by kernel_rfl) (by kernel_rfl) (fun _ _ _ h => h) (Or.inl ⟨by rfl, ?_⟩) hHeld ?_
        · intro u hu
          go_simp
        try simp only [Act.put, List.setIfInBounds_toArray, List.set_cons_zero, List.set_cons_succ]
        refine wpAnyH_take (i := 7) (oi := { dst := some 93, op := Op.move (Operand.tmp 17), type := 3, pos := _, after := #[{ on := 6, ground := Ground.guard }], guard := some (6, false) }) (v := .int .i64 zm) rfl (by kernel_rfl) (by kernel_rfl) (by kernel_rfl) (fun _ _ _ h => h) (Or.inl ⟨by rfl, ?_⟩) hHeld ?_
        · intro u hu
          go_simp
        try simp only [Act.put, List.setIfInBounds_toArray, List.set_cons_zero, List.set_cons_succ]
        refine wpAnyH_take (i := 8) (oi := { dst := some 94, op := Op.move (Operand.tmp 13), type := 37, pos := _, after := #[{ on := 6, ground := Ground.guard }], guard := some (6, false) }) (v := .pointer (some ⟨yc, 0, none⟩)) rfl (by kernel_rfl) (by kernel_rfl) (by kernel_rfl) (fun _ _ _ h => h) (Or.inl ⟨by rfl, ?_⟩) hHeld ?_
        · intro u hu
          go_simp
        try simp only [Act.put, List.setIfInBounds_toArray, List.set_cons_zero, List.set_cons_succ]
        refine wpAnyH_take (i := 9) (oi := { dst := some 95, op := Op.nilCheck (Operand.tmp 94), type := 0, pos := _, after := #[{ on := 8, ground := Ground.data }, { on := 6, ground := Ground.guard }], guard := some (6, false) }) (v := .pointer (some ⟨yc, 0, none⟩)) rfl (by kernel_rfl) (by kernel_rfl) (by kernel_rfl) (fun _ _ _ h => h) (Or.inl ⟨by rfl, ?_⟩) hHeld ?_
        · intro u hu
          go_simp
        try simp only [Act.put, List.setIfInBounds_toArray, List.set_cons_zero, List.set_cons_succ]
        refine wpAnyH_take (i := 10) (oi := { dst := some 96, op := Op.fieldAddr 49 (Operand.tmp 95) 4, type := 0, pos := _, after := #[{ on := 9, ground := Ground.data }, { on := 6, ground := Ground.guard }], guard := some (6, false) }) (v := .pointer (some ⟨yc, 4, none⟩)) rfl (by kernel_rfl) (by kernel_rfl) (by kernel_rfl) (fun _ _ _ h => h) (Or.inl ⟨by rfl, ?_⟩) hHeld ?_
        · intro u hu
          go_simp
        try simp only [Act.put, List.setIfInBounds_toArray, List.set_cons_zero, List.set_cons_succ]
        refine wpAnyH_take (i := 11) (oi := { dst := some 97, op := Op.load 3 (Operand.tmp 96), type := 3, pos := _, after := #[{ on := 10, ground := Ground.data }, { on := 6, ground := Ground.guard }], guard := some (6, false) }) (v := .int .i64 zm) rfl (by kernel_rfl) (by kernel_rfl) (by kernel_rfl) (fun _ _ _ h => h) (Or.inl ⟨by rfl, ?_⟩) hHeld ?_
        · intro u hu
          have z1 := (hct u hu).2.1; go_simp
        try simp only [Act.put, List.setIfInBounds_toArray, List.set_cons_zero, List.set_cons_succ]
        refine wpAnyH_take (i := 12) (oi := { dst := some 98, op := Op.binOp BinOp.neq 3 (Operand.tmp 93) (Operand.tmp 97) 3, type := 4, pos := _, after := #[{ on := 7, ground := Ground.data }, { on := 11, ground := Ground.data }, { on := 6, ground := Ground.guard }], guard := some (6, false) }) (v := .bool false) rfl (by kernel_rfl) (by kernel_rfl) (by kernel_rfl) (fun _ _ _ h => h) (Or.inl ⟨by rfl, ?_⟩) hHeld ?_
        · intro u hu
          go_simp
        try simp only [Act.put, List.setIfInBounds_toArray, List.set_cons_zero, List.set_cons_succ]
        refine wpAnyH_take (i := 13) (oi := { dst := some 99, op := Op.pick (Operand.tmp 92) (Operand.const (Value.bool true)) (Operand.tmp 98), type := 4, pos := _, after := #[{ on := 6, ground := Ground.data }, { on := 12, ground := Ground.data }], guard := none }) (v := .bool false) rfl (by kernel_rfl) (by kernel_rfl) (by kernel_rfl) (fun _ _ _ h => h) (Or.inl ⟨by rfl, ?_⟩) hHeld ?_
        · intro u hu
          go_simp
        try simp only [Act.put, List.setIfInBounds_toArray, List.set_cons_zero, List.set_cons_succ]
        refine wpAnyH_take (i := 14) (oi := { dst := some 100, op := Op.move (Operand.tmp 99), type := 4, pos := _, after := #[{ on := 13, ground := Ground.data }, { on := 6, ground := Ground.chain }], guard := none }) (v := .bool false) rfl (by kernel_rfl) (by kernel_rfl) (by kernel_rfl) (fun _ _ _ h => h) (Or.inl ⟨by rfl, ?_⟩) hHeld ?_
        · intro u hu
          go_simp
        try simp only [Act.put, List.setIfInBounds_toArray, List.set_cons_zero, List.set_cons_succ]
        refine wpAnyH_take (i := 15) (oi := { dst := some 101, op := Op.move (Operand.tmp 11), type := 34, pos := _, after := #[{ on := 14, ground := Ground.guard }], guard := some (14, false) }) (v := .pointer (some ⟨gc, 0, none⟩)) rfl (by kernel_rfl) (by kernel_rfl) (by kernel_rfl) (fun _ _ _ h => h) (Or.inl ⟨by rfl, ?_⟩) hHeld ?_
        · intro u hu
          go_simp
        try simp only [Act.put, List.setIfInBounds_toArray, List.set_cons_zero, List.set_cons_succ]
        refine wpAnyH_take (i := 17) (oi := { dst := some 103, op := Op.move (Operand.tmp 13), type := 37, pos := _, after := #[{ on := 14, ground := Ground.guard }], guard := some (14, false) }) (v := .pointer (some ⟨yc, 0, none⟩)) rfl (by kernel_rfl) (by kernel_rfl) (by kernel_rfl) (fun _ _ _ h => h) (Or.inl ⟨by rfl, ?_⟩) hHeld ?_
        · intro u hu
          go_simp
        try simp only [Act.put, List.setIfInBounds_toArray, List.set_cons_zero, List.set_cons_succ]
        refine wpAnyH_ready (rs := [16]) (by kernel_rfl) (by simp) ?_
        refine (AllReadyH.cons (o := { dst := some 102, op := Op.call { callee := Callee.value (Operand.func 15), args := #[Operand.tmp 101], argTypes := #[34] }, type := 51, pos := _, after := #[{ on := 15, ground := Ground.data }, { on := 14, ground := Ground.chain }, { on := 14, ground := Ground.guard }], guard := some (14, false) }) rfl (fun K hK => ?_) AllReadyH.nil)
        go_simp
        refine (hHe _ (Below.refl _ w8).drew).mono ?_
        rintro e w9 ⟨v9, rfl, o9, b9⟩
        obtain ⟨a9, n9, c9, hv9⟩ := o9.shape
        subst hv9
        have B9 : Below w8.heap.size w8 w9 := bnext (Below.refl _ w8).drew b9 (Nat.le_refl _)
        try go_wp2_with fail
        refine hK.out _ _ (B9) (fun hHeld => ?_)
        clear hK K
        try simp only [Act.put, List.setIfInBounds_toArray, List.set_cons_zero, List.set_cons_succ]
        refine wpAnyH_ready (rs := [18]) (by kernel_rfl) (by simp) ?_
        refine (AllReadyH.cons (o := { dst := some 104, op := Op.call { callee := Callee.value (Operand.func 16), args := #[Operand.tmp 103], argTypes := #[37] }, type := 51, pos := _, after := #[{ on := 17, ground := Ground.data }, { on := 16, ground := Ground.chain }, { on := 14, ground := Ground.guard }], guard := some (14, false) }) rfl (fun K hK => ?_) AllReadyH.nil)
        go_simp
        refine (hRh _ B9).mono ?_
        rintro e w10 ⟨v10, rfl, o10, b10⟩
        obtain ⟨a10, n10, c10, hv10⟩ := o10.shape
        subst hv10
        have B10 : Below w8.heap.size w8 w10 := bnext B9 b10 (Nat.le_refl _)
        have hSm := same_self (o9.later b10) o10 hK1'
        clear o9 o10 b9 b10
        try go_wp2_with fail
        refine hK.out _ _ (B10) (fun hHeld => ?_)
        clear hK K
        try simp only [Act.put, List.setIfInBounds_toArray, List.set_cons_zero, List.set_cons_succ]
        refine wpAnyH_ready (rs := [19]) (by kernel_rfl) (by simp) ?_
        refine (AllReadyH.cons (o := { dst := some 105, op := Op.call { callee := Callee.value (Operand.func 14), args := #[Operand.tmp 102, Operand.tmp 104], argTypes := #[51, 51] }, type := 4, pos := _, after := #[{ on := 16, ground := Ground.data }, { on := 18, ground := Ground.data }, { on := 18, ground := Ground.chain }, { on := 14, ground := Ground.guard }], guard := some (14, false) }) rfl (fun K hK => ?_) AllReadyH.nil)
        go_simp
        refine hSm.mono ?_
        rintro e w11 ⟨rfl, b11⟩
        have B11 : Below w8.heap.size w8 w11 := bnext B10 b11 (Nat.le_refl _)
        try go_wp2_with fail
        refine hK.out _ _ (B11) (fun hHeld => ?_)
        clear hK K
        try simp only [Act.put, List.setIfInBounds_toArray, List.set_cons_zero, List.set_cons_succ]
        refine wpAnyH_take (i := 20) (oi := { dst := some 106, op := Op.unOp UnOp.not 4 (Operand.tmp 105), type := 4, pos := _, after := #[{ on := 19, ground := Ground.data }, { on := 14, ground := Ground.guard }], guard := some (14, false) }) (v := .bool false) rfl (by kernel_rfl) (by kernel_rfl) (by kernel_rfl) (fun _ _ _ h => h) (Or.inl ⟨by rfl, ?_⟩) hHeld ?_
        · intro u hu
          go_simp
        try simp only [Act.put, List.setIfInBounds_toArray, List.set_cons_zero, List.set_cons_succ]
        refine wpAnyH_take (i := 21) (oi := { dst := some 107, op := Op.pick (Operand.tmp 100) (Operand.const (Value.bool true)) (Operand.tmp 106), type := 4, pos := _, after := #[{ on := 14, ground := Ground.data }, { on := 20, ground := Ground.data }], guard := none }) (v := .bool false) rfl (by kernel_rfl) (by kernel_rfl) (by kernel_rfl) (fun _ _ _ h => h) (Or.inl ⟨by rfl, ?_⟩) hHeld ?_
        · intro u hu
          go_simp
        try simp only [Act.put, List.setIfInBounds_toArray, List.set_cons_zero, List.set_cons_succ]
        refine wpAnyH_take (i := 22) (oi := { dst := some 108, op := Op.move (Operand.tmp 107), type := 4, pos := _, after := #[{ on := 21, ground := Ground.data }, { on := 19, ground := Ground.chain }], guard := none }) (v := .bool false) rfl (by kernel_rfl) (by kernel_rfl) (by kernel_rfl) (fun _ _ _ h => h) (Or.inl ⟨by rfl, ?_⟩) hHeld ?_
        · intro u hu
          go_simp
        try simp only [Act.put, List.setIfInBounds_toArray, List.set_cons_zero, List.set_cons_succ]
        refine wpAnyH_take (i := 23) (oi := { dst := some 109, op := Op.move (Operand.tmp 11), type := 34, pos := _, after := #[{ on := 22, ground := Ground.guard }], guard := some (22, false) }) (v := .pointer (some ⟨gc, 0, none⟩)) rfl (by kernel_rfl) (by kernel_rfl) (by kernel_rfl) (fun _ _ _ h => h) (Or.inl ⟨by rfl, ?_⟩) hHeld ?_
        · intro u hu
          go_simp
        try simp only [Act.put, List.setIfInBounds_toArray, List.set_cons_zero, List.set_cons_succ]
        refine wpAnyH_take (i := 25) (oi := { dst := some 111, op := Op.move (Operand.tmp 13), type := 37, pos := _, after := #[{ on := 22, ground := Ground.guard }], guard := some (22, false) }) (v := .pointer (some ⟨yc, 0, none⟩)) rfl (by kernel_rfl) (by kernel_rfl) (by kernel_rfl) (fun _ _ _ h => h) (Or.inl ⟨by rfl, ?_⟩) hHeld ?_
        · intro u hu
          go_simp
        try simp only [Act.put, List.setIfInBounds_toArray, List.set_cons_zero, List.set_cons_succ]
        refine wpAnyH_ready (rs := [24]) (by kernel_rfl) (by simp) ?_
        refine (AllReadyH.cons (o := { dst := some 110, op := Op.call { callee := Callee.value (Operand.func 17), args := #[Operand.tmp 109], argTypes := #[34] }, type := 51, pos := _, after := #[{ on := 23, ground := Ground.data }, { on := 22, ground := Ground.chain }, { on := 22, ground := Ground.guard }], guard := some (22, false) }) rfl (fun K hK => ?_) AllReadyH.nil)
        go_simp
        refine (hCh _ B11).mono ?_
        rintro e w12 ⟨v12, rfl, o12, b12⟩
        obtain ⟨a12, n12, c12, hv12⟩ := o12.shape
        subst hv12
        have B12 : Below w8.heap.size w8 w12 := bnext B11 b12 (Nat.le_refl _)
        try go_wp2_with fail
        refine hK.out _ _ (B12) (fun hHeld => ?_)
        clear hK K
        try simp only [Act.put, List.setIfInBounds_toArray, List.set_cons_zero, List.set_cons_succ]
        refine wpAnyH_ready (rs := [26]) (by kernel_rfl) (by simp) ?_
        refine (AllReadyH.cons (o := { dst := some 112, op := Op.call { callee := Callee.value (Operand.func 18), args := #[Operand.tmp 111], argTypes := #[37] }, type := 51, pos := _, after := #[{ on := 25, ground := Ground.data }, { on := 24, ground := Ground.chain }, { on := 22, ground := Ground.guard }], guard := some (22, false) }) rfl (fun K hK => ?_) AllReadyH.nil)
        go_simp
        refine (hRc _ B12).mono ?_
        rintro e w13 ⟨v13, rfl, o13, b13⟩
        obtain ⟨a13, n13, c13, hv13⟩ := o13.shape
        subst hv13
        have B13 : Below w8.heap.size w8 w13 := bnext B12 b13 (Nat.le_refl _)
        have hSn := same_self (o12.later b13) o13 hK2'
        clear o12 o13 b12 b13
        try go_wp2_with fail
        refine hK.out _ _ (B13) (fun hHeld => ?_)
        clear hK K
        try simp only [Act.put, List.setIfInBounds_toArray, List.set_cons_zero, List.set_cons_succ]
        refine wpAnyH_ready (rs := [27]) (by kernel_rfl) (by simp) ?_
        refine (AllReadyH.cons (o := { dst := some 113, op := Op.call { callee := Callee.value (Operand.func 14), args := #[Operand.tmp 110, Operand.tmp 112], argTypes := #[51, 51] }, type := 4, pos := _, after := #[{ on := 24, ground := Ground.data }, { on := 26, ground := Ground.data }, { on := 26, ground := Ground.chain }, { on := 22, ground := Ground.guard }], guard := some (22, false) }) rfl (fun K hK => ?_) AllReadyH.nil)
        go_simp
        refine hSn.mono ?_
        rintro e w14 ⟨rfl, b14⟩
        have B14 : Below w8.heap.size w8 w14 := bnext B13 b14 (Nat.le_refl _)
        try go_wp2_with fail
        refine hK.out _ _ (B14) (fun hHeld => ?_)
        clear hK K
        try simp only [Act.put, List.setIfInBounds_toArray, List.set_cons_zero, List.set_cons_succ]
        refine wpAnyH_take (i := 28) (oi := { dst := some 114, op := Op.unOp UnOp.not 4 (Operand.tmp 113), type := 4, pos := _, after := #[{ on := 27, ground := Ground.data }, { on := 22, ground := Ground.guard }], guard := some (22, false) }) (v := .bool false) rfl (by kernel_rfl) (by kernel_rfl) (by kernel_rfl) (fun _ _ _ h => h) (Or.inl ⟨by rfl, ?_⟩) hHeld ?_
        · intro u hu
          go_simp
        try simp only [Act.put, List.setIfInBounds_toArray, List.set_cons_zero, List.set_cons_succ]
        refine wpAnyH_take (i := 29) (oi := { dst := some 115, op := Op.pick (Operand.tmp 108) (Operand.const (Value.bool true)) (Operand.tmp 114), type := 4, pos := _, after := #[{ on := 22, ground := Ground.data }, { on := 28, ground := Ground.data }], guard := none }) (v := .bool false) rfl (by kernel_rfl) (by kernel_rfl) (by kernel_rfl) (fun _ _ _ h => h) (Or.inl ⟨by rfl, ?_⟩) hHeld ?_
        · intro u hu
          go_simp
        try simp only [Act.put, List.setIfInBounds_toArray, List.set_cons_zero, List.set_cons_succ]
        refine wpAnyH_take (i := 30) (oi := { dst := some 116, op := Op.move (Operand.tmp 115), type := 4, pos := _, after := #[{ on := 29, ground := Ground.data }, { on := 27, ground := Ground.chain }], guard := none }) (v := .bool false) rfl (by kernel_rfl) (by kernel_rfl) (by kernel_rfl) (fun _ _ _ h => h) (Or.inl ⟨by rfl, ?_⟩) hHeld ?_
        · intro u hu
          go_simp
        try simp only [Act.put, List.setIfInBounds_toArray, List.set_cons_zero, List.set_cons_succ]
        refine wpAnyH_take (i := 31) (oi := { dst := some 117, op := Op.move (Operand.tmp 5), type := 23, pos := _, after := #[{ on := 30, ground := Ground.guard }], guard := some (30, false) }) (v := .pointer (some ⟨gp, 0, none⟩)) rfl (by kernel_rfl) (by kernel_rfl) (by kernel_rfl) (fun _ _ _ h => h) (Or.inl ⟨by rfl, ?_⟩) hHeld ?_
        · intro u hu
          go_simp
        try simp only [Act.put, List.setIfInBounds_toArray, List.set_cons_zero, List.set_cons_succ]
        refine wpAnyH_take (i := 33) (oi := { dst := some 119, op := Op.move (Operand.tmp 6), type := 25, pos := _, after := #[{ on := 30, ground := Ground.guard }], guard := some (30, false) }) (v := .pointer (some ⟨q, 0, none⟩)) rfl (by kernel_rfl) (by kernel_rfl) (by kernel_rfl) (fun _ _ _ h => h) (Or.inl ⟨by rfl, ?_⟩) hHeld ?_
        · intro u hu
          go_simp
        try simp only [Act.put, List.setIfInBounds_toArray, List.set_cons_zero, List.set_cons_succ]
        refine wpAnyH_take (i := 34) (oi := { dst := some 120, op := Op.nilCheck (Operand.tmp 119), type := 0, pos := _, after := #[{ on := 33, ground := Ground.data }, { on := 30, ground := Ground.guard }], guard := some (30, false) }) (v := .pointer (some ⟨q, 0, none⟩)) rfl (by kernel_rfl) (by kernel_rfl) (by kernel_rfl) (fun _ _ _ h => h) (Or.inl ⟨by rfl, ?_⟩) hHeld ?_
        · intro u hu
          go_simp
        try simp only [Act.put, List.setIfInBounds_toArray, List.set_cons_zero, List.set_cons_succ]
        refine wpAnyH_take (i := 35) (oi := { dst := some 121, op := Op.fieldAddr 55 (Operand.tmp 120) 1, type := 0, pos := _, after := #[{ on := 34, ground := Ground.data }, { on := 30, ground := Ground.guard }], guard := some (30, false) }) (v := .pointer (some ⟨q, 1, none⟩)) rfl (by kernel_rfl) (by kernel_rfl) (by kernel_rfl) (fun _ _ _ h => h) (Or.inl ⟨by rfl, ?_⟩) hHeld ?_
        · intro u hu
          go_simp
        try simp only [Act.put, List.setIfInBounds_toArray, List.set_cons_zero, List.set_cons_succ]
        refine wpAnyH_take (i := 36) (oi := { dst := some 122, op := Op.load 3 (Operand.tmp 121), type := 3, pos := _, after := #[{ on := 35, ground := Ground.data }, { on := 30, ground := Ground.guard }], guard := some (30, false) }) (v := .int .i64 zu) rfl (by kernel_rfl) (by kernel_rfl) (by kernel_rfl) (fun _ _ _ h => h) (Or.inl ⟨by rfl, ?_⟩) hHeld ?_
        · intro u hu
          have z1 := (hct u hu).2.2; go_simp
        try simp only [Act.put, List.setIfInBounds_toArray, List.set_cons_zero, List.set_cons_succ]
        refine wpAnyH_ready (rs := [32]) (by kernel_rfl) (by simp) ?_
        refine (AllReadyH.cons (o := { dst := some 118, op := Op.call { callee := Callee.value (Operand.func 19), args := #[Operand.tmp 117], argTypes := #[23] }, type := 3, pos := _, after := #[{ on := 31, ground := Ground.data }, { on := 30, ground := Ground.chain }, { on := 30, ground := Ground.guard }], guard := some (30, false) }) rfl (fun K hK => ?_) AllReadyH.nil)
        go_simp
        refine (hUs _ B14).mono ?_
        rintro e w15 ⟨rfl, b15⟩
        have B15 : Below w8.heap.size w8 w15 := bnext B14 b15 (Nat.le_refl _)
        try go_wp2_with fail
        refine hK.out _ _ (B15) (fun hHeld => ?_)
        clear hK K
        try simp only [Act.put, List.setIfInBounds_toArray, List.set_cons_zero, List.set_cons_succ]
        refine wpAnyH_take (i := 37) (oi := { dst := some 123, op := Op.binOp BinOp.neq 3 (Operand.tmp 118) (Operand.tmp 122) 3, type := 4, pos := _, after := #[{ on := 32, ground := Ground.data }, { on := 36, ground := Ground.data }, { on := 30, ground := Ground.guard }], guard := some (30, false) }) (v := .bool false) rfl (by kernel_rfl) (by kernel_rfl) (by kernel_rfl) (fun _ _ _ h => h) (Or.inl ⟨by rfl, ?_⟩) hHeld ?_
        · intro u hu
          go_simp
        try simp only [Act.put, List.setIfInBounds_toArray, List.set_cons_zero, List.set_cons_succ]
        refine wpAnyH_take (i := 38) (oi := { dst := some 124, op := Op.pick (Operand.tmp 116) (Operand.const (Value.bool true)) (Operand.tmp 123), type := 4, pos := _, after := #[{ on := 30, ground := Ground.data }, { on := 37, ground := Ground.data }], guard := none }) (v := .bool false) rfl (by kernel_rfl) (by kernel_rfl) (by kernel_rfl) (fun _ _ _ h => h) (Or.inl ⟨by rfl, ?_⟩) hHeld ?_
        · intro u hu
          go_simp
        try simp only [Act.put, List.setIfInBounds_toArray, List.set_cons_zero, List.set_cons_succ]
        refine wpAnyH_done (by kernel_rfl) ?_ _
        have I15 := I8.later B15
        clear hHeld hSm hSn hHe hRh hCh hRc hUs hct B9 B10 B11 B12 B13 B14 B15 b11 b14 b15 I8
        go_wp2_with fail
        go_loopw [18] (fun v wr => ∃ j : Nat, j ≤ 6 ∧ v = .int .i64 (j : Int) ∧ PlI W gc g gp yc y q (i + 1) wr Z U' V') (fun v _ => 6 - (intOf v).toNat)
        case atStart => exact ⟨0, by omega, rfl, I15⟩
        case round =>
          clear I15
          obtain ⟨j, hj6, rfl, J⟩ := hrel
          by_cases hjl : j < 6
          · have hjl' : (j : Int) < 6 := by omega
            have hjw : (Lit.int .i64 (j : Int)).wf = true := by simp [Lit.wf, IntKind.min, IntKind.max, IntKind.bits, IntKind.signed]; omega
            have hR1 := fun u (h : PlI W gc g gp yc y q (i + 1) u Z U' V') => read_ca h.t.a (j : Int) hjw
            have hR2 := fun u (h : PlI W gc g gp yc y q (i + 1) u Z U' V') => rread_ra h.t.b (j : Int) hjw
            generalize checkErr Z.d (j : Int) = ce at *
            have hq := eq36 (Z.d.shown (j : Int)) (Z.d.shown (j : Int))
            generalize Z.d.shown (j : Int) = bj at *
            rw [decide_eq_true rfl] at hq
            go_wp2_with (first
              | (go_at_call 20; refine (hR1 _ J).mono ?_; rintro e w20 ⟨rfl, b20⟩
                 have J20 := J.later b20
                 clear hR1 b20 J)
              | (have _t5 := rA25; refine at_newB (by rfl) (by rfl) ?_; intro gC w26 a26 l26 r26 b26)
              | (have _t0 := J20; refine at_newB (by rfl) (by rfl) ?_; intro gA w21 a21 l21 r21 b21)
              | (refine at_putB (by rfl) _ _ (by rfl) gA (by rfl) bj (by rfl) _ r21 ?_; intro w22 r22 s22
                 have hgA := J20.t.far gA a21
                 have J22 := (J20.later b21).own s22 hgA (Nat.le_trans J20.b.size a21)
                 clear r21 b21 s22 J20)
              | (go_at_call 21; refine (hR2 _ J22).mono ?_; rintro e w25 ⟨rfl, b25⟩
                 have J25 := J22.later b25
                 have rA25 := r22.later b25
                 clear hR2 b25 r22 J22)
              | (refine at_putB (by rfl) _ _ (by rfl) gC (by rfl) bj (by rfl) _ r26 ?_; intro w27 r27 s27
                 have hgC := J25.t.far gC a26
                 have J27 := (J25.later b26).own s27 hgC (Nat.le_trans J25.b.size a26)
                 have rA27 := (rA25.later b26).step s27 (fun e => by have := rA25.lt; omega)
                 clear r26 b26 s27 J25)
              | (refine at_getB (by rfl) _ (by rfl) gA (by rfl) bj rA27.range ?_)
              | (refine at_getB (by rfl) _ (by rfl) gC (by rfl) bj r27.range ?_))
            go_roundw
            case rel => exact ⟨j + 1, by omega, by go_num, J27⟩
            case measure => simp [intOf]; omega
          · obtain rfl : j = 6 := by omega
            go_wp2_with fail
            go_roundw
            case rel => exact ⟨i + 1, by omega, by go_num, _, _, _, J⟩
            case measure => simp [intOf]; omega
      · by_cases h1 : (i : Int) < (n : Int)
        · have h2 : ¬ ((i : Int) < 80) := by omega
          go_wp2_with (go_at_call 22; refine (cworks_any _).mono ?_; rintro e u ⟨rfl, b9⟩)
          go_returns
          exact ⟨rfl, bnext I0.b b9 (Nat.le_refl _)⟩
        · go_wp2_with (go_at_call 22; refine (cworks_any _).mono ?_; rintro e u ⟨rfl, b9⟩)
          go_returns
          exact ⟨rfl, bnext I0.b b9 (Nat.le_refl _)⟩
theorem own : ownKnob Try.prog.godebug = none := by kernel_rfl
theorem laidOut : laidOutB Try.prog = true := by kernel_rfl
set_option maxRecDepth 100000 in
theorem lifted (os : Os) (started : os.Started) (H : Type) (enc : TypeId × Value → H) :
    ReturnsInHanded {} Try.checked os 3 .any (Rows.cachePlaysSpec.pre6 enc Try.prog Try.f3 Rows.cachePlaysRow.domain false) (Rows.cachePlaysSpec.post enc Try.prog Try.f3 false true false false) := by
  refine returnsInHanded_of_change (C := Try.checked) own started (by kernel_rfl) Try.func3
    (ChangeSpec.witness6 (enc := enc) (C := Try.checked) false ⟨#[], #[.int .i64 0, .slice none 0 0], []⟩ 8 (by kernel_rfl) (by kernel_rfl) (by kernel_rfl) (by kernel_rfl)) ?_
  intro W base args ds gs before hval0 hW hcnd _
  have hval : ∀ (j : Nat) t v, Try.f3.params[j]? = some t → args[j]? = some v → Value.okWide Try.prog W .any base t v := hval0
  have hW' := hW
  obtain ⟨p, q, hA0, hV, rfl, hfz, hnd⟩ := hW
  have hA : DataW.TrodAll enc Try.prog W 0 (fun _ => true) true Try.f3.params.toList args.toList ds p := hA0
  rw [Try.params3] at hA hval
  obtain ⟨v0, vs0, d0, ds0, p0, q0, hargs, rfl, rfl, h0, r0⟩ := trodAll_cons hA
  obtain ⟨v1, vs1, d1, ds1, p1, q1, rfl, rfl, rfl, h1, r1⟩ := trodAll_cons r0
  obtain ⟨rfl, rfl, rfl⟩ := trodAll_nil r1
  obtain rfl : args = #[v0, v1] := by cases args; simp_all
  obtain ⟨rfl, rfl⟩ := trodVars_none hV
  obtain ⟨a0, rfl, rfl, rfl, w0⟩ := open_int Try.underlying3 (hval 0 3 v0 rfl rfl) h0
  obtain ⟨a1, len1, cap1, rfl⟩ := okWide_slice Try.underlying22 (hval 1 22 v1 rfl rfl)
  have k1 := h1
  have lt1 : ∀ x ∈ p1, x.block < W.heap.size := by obtain ⟨m, hm⟩ := k1; exact DataW.trod_lt m _ _ _ hm
  obtain ⟨z1, w1⟩ : ∃ zs, A3s W a1 len1 cap1 zs := by
    obtain ⟨fuel, hf⟩ := h1
    obtain ⟨a, n, c, l, hcs, hi⟩ := a3s_of_trod hf
    simp [Value.cells] at hcs
    obtain ⟨rfl, rfl, rfl⟩ := hcs
    exact ⟨_, hi⟩
  clear hA0 hval0
  refine (walk a0 a1 len1 cap1 z1 W w0 w1).mono fun e W' ⟨he, bel⟩ => ?_
  subst he
  exact ⟨_, rfl, _, _, _, [], _, [], hW', trodAll_mk1 (shut_bool Try.underlying4 _), (trodAll_cons_mk (shut_int Try.underlying3 w0) (trodAll_cons_mk (Below.trod laidOut (by kernel_rfl) (of_decide_eq_true (by kernel_rfl)) k1 bel lt1) trodAll_mk0)), rfl, bel.frame _, fun h => by cases h⟩
theorem over : Rows.cachePlaysRow.holds Try.pinned (OpenSpec.ofChange Rows.cachePlaysSpec) :=
  OpenClaim.holds_of_wide 3 Try.f3 rfl rfl rfl rfl rfl rfl rfl ⟨rfl, rfl, rfl, rfl, rfl⟩ rfl rfl rfl rfl rfl (by kernel_rfl) Try.func3 (by kernel_rfl)
    (of_decide_eq_true (by kernel_rfl)) (by unfold Func.isWrapper; first | (rw [if_pos (by decide +kernel)]; kernel_rfl) | (rw [if_neg (by decide +kernel)]; exact ⟨rfl, rfl⟩))
    (fun os started H enc _ => lifted os started H enc)
end Go.Proofs.Ytecedklfdmbnpaa.cachePlays
namespace Go.Proofs.Ytecedklfdmbnpaa
/-- The statement. -/
theorem cachePlays_holds : Rows.CachePlaysSaid := cachePlays.over
#print axioms cachePlays_holds
end Go.Proofs.Ytecedklfdmbnpaa
