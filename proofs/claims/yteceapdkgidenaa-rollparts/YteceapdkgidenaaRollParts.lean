/-
  The statement RollParts, proved: for every sector, kind, patches and choice the law returns true, and what came in reads as it did; no condition.
-/
import Derived.Test.YteceapdkgidenaaRoW
import Derived.Test.YteceapdkgidenaaLdIn
namespace Go.Proofs.Yteceapdkgidenaa.rollParts
open Go.ChangeShapes Go.WideShapes Go.ChangeAt Go.RowKit
set_option linter.unusedVariables false
set_option linter.unusedSimpArgs false

set_option maxRecDepth 100000 in
set_option maxHeartbeats 10000000 in
theorem walk_nat (b : Blk) (k0 : Nat) (a2 : Option Addr) (n2 c2 : Nat) (L0 : List Pe) (a3 : Option Addr) (n3 c3 : Nat) (wl : List Bool) (w : World) (hk0 : k0 < 256) (h2 : Ps w (fun x => x < w.heap.size) ⟨a2, n2, c2⟩ L0) (h3 : Bos w a3 n3 c3 wl) :
    Calls Try.prog 6 #[.agg b.cs.toArray, .int .u8 (k0 : Int), .slice a2 n2 c2, .slice a3 n3 c3] w fun e w' => e = .returned (.bool true) ∧ Below w.heap.size w w' := by
  have hb := b.len
  obtain ⟨k, hk, h1, h6⟩ : ∃ n : Nat, n = 1 + k0 % 6 ∧ 1 ≤ n ∧ n ≤ 6 := ⟨_, rfl, by omega, by omega⟩
  have q3 : 1 + (k0 : Int) % 6 = (k : Int) := by omega
  clear hk
  have h20 := fewL_len (pts L0)
  have hsm : ∀ p ∈ fewL (pts L0), _ := fun p hp => fewL_small hp
  have HF := fun (u : World) (hu : Below w.heap.size w u) => few15_any (h2.later hu)
  generalize fewL (pts L0) = l0 at *
  clear h2
  have t1 : Hid True := trivial
  go_enter Try.func6, Try.ntmps6
  go_wp2_with (first
    | (refine at_box 23 64 arrB (by rfl) _ (by rfl) b.l (by rfl) hb ?_; intro g4 u1 k1 z1 r1 b1)
    | (go_at_call 15; refine (works15_any _).mono ?_; rintro e w1 ⟨rfl, b2⟩
       have rb1 := r1.later b2
       have B1 := bnext b1 b2 (Nat.le_refl _)
       have g4l : g4 < w1.heap.size := rb1.lt
       clear r1 b1 b2 k1 z1)
    | (go_at_call 16; clear t1; refine (HF _ B1).mono ?_; rintro e W ⟨v, L, rfl, F0, hL⟩
       have s0 := F0.psL
       obtain ⟨⟨la, ln, lc⟩, rfl, -, b3⟩ := s0
       clear HF))
  have hln : ln = L.length := by
    obtain ⟨a', c', e, _⟩ := F0.pu.ow.shape
    injection e with _ e _
  subst hln
  have hL20 : L.length ≤ 20 := by rw [← pts_len', hL]; exact h20
  have hLs : ∀ T ∈ L, T.p.data.length ≤ 70 ∧ T.p.needs.length ≤ 6 := fun T hT => hsm T.p (by rw [← hL]; exact List.mem_map.2 ⟨T, hT, rfl⟩)
  have J0 := RpJ.start F0 rb1
  have h3' := (h3.later B1)
  clear h20 hsm hL l0 b3 h3 rb1
  generalize (W.alloc (.cells #[] 27)).alloc (.cells #[] 3) = W0 at *
  generalize Value.slice (some ⟨W.heap.size, 0, none⟩) 0 0 = vf0 at *
  generalize Value.slice (some ⟨W.heap.size + 1, 0, none⟩) 0 0 = vi0 at *
  have hK : wfi (k : Int) := wfi_of (by omega)
  go_loopw [9, 10, 11] (fun vf vi ix wr => ∃ (i : Nat) (idl : List Int), i ≤ L.length ∧ ix = .int .i64 (i : Int) ∧ RpJ w1 W (.slice la L.length lc) g4 b (mdL (k : Int) L i) (fsL (k : Int) L i idl) idl vf vi wr ∧ RpP (k : Int) L i idl) (fun _ _ ix _ => L.length - (intOf ix).toNat)
  case atStart => exact ⟨0, [], Nat.zero_le _, rfl, by rw [mdL_zero, fsL_zero]; exact J0, RpP.zero _ _⟩
  case round =>
    clear J0
    obtain ⟨i, idl, hi, rfl, J, P⟩ := hrel
    by_cases hin : i < L.length
    · have a9 : (i : Int) < (L.length : Int) := by omega
      obtain ⟨T, hT⟩ : ∃ T, L[i]? = some T := ⟨L[i], List.getElem?_eq_getElem hin⟩
      have hTm : (mdL (k : Int) L i)[i]? = some T := mdL_ge hT (Nat.le_refl _)
      have how : OwP wr (.slice la (mdL (k : Int) L i).length lc) (mdL (k : Int) L i) := by rw [mdL_len]; exact J.ow
      obtain ⟨bl, _, e1, _, _⟩ := how.el i (by rw [mdL_len]; exact hin)
      subst e1
      clear how
      have hml := mdL_len (k : Int) L i
      have hwf := J.wf T (List.mem_of_getElem? hTm)
      obtain ⟨wf1, wf2, wf3, wf4⟩ := md_wf (i := i) hwf hK (wfi_of (by omega))
      have hse : Hid ((mdL (k : Int) L i).set i (mdT (k : Int) i T) = mdL (k : Int) L (i + 1)) := mdL_set hT
      generalize mdL (k : Int) L i = M at *
      have t1 : Hid True := trivial
      have t2 : Hid True := trivial
      go_wp2_with (first
        | (clear t1; refine at_setJ (by rfl) _ _ (by rfl) J hml i 4 (i * 9 + 4) rfl (by rfl) T (pk (k : Int) T) (k : Int) (by rfl) hTm (by omega) rfl rfl rfl rfl rfl wf1 ?_; intro v1 J1
           have hT1 := set_at (t' := pk (k : Int) T) hTm
           have hl1 : (M.set i (pk (k : Int) T)).length = L.length := by rw [List.length_set]; exact hml)
        | (clear t2; refine at_setJ (by rfl) _ _ (by rfl) J1 hl1 i 0 (i * 9) rfl (by rfl) (pk (k : Int) T) (pki (k : Int) i T) ((i : Int) + 1) (by rfl) hT1 (by omega) rfl rfl rfl rfl rfl wf2 ?_; intro v2 J2
           rw [List.set_set] at J2
           clear J J1 hT1 hl1))
      have hT2 := set_at (t' := pki (k : Int) i T) hTm
      have hl2 : (M.set i (pki (k : Int) i T)).length = L.length := by rw [List.length_set]; exact hml
      have hm2 := J2.ms _ (List.mem_of_getElem? hT2)
      have c3 : v2.cell? ⟨bl, i * 9 + 3, none⟩ = some (.slice T.d.a T.d.n T.d.c) := (J2.ow.at' hl2 i _ hT2).1 3 _ rfl
      have em1 : (min (T.d.n : Int) 8) = ((min T.d.n 8 : Nat) : Int) := by omega
      have le1 : T.d.n ≤ T.d.c := hm2.bs.le
      have ld : T.d.n ≤ maxLen := Nat.le_trans le1 hm2.bs.cap
      refine wp_region_last (S := fun u => Below v2.heap.size v2 u) _ _ (by simp only [List.pop_toArray, List.dropLast_cons_cons, List.dropLast_singleton]; rfl) (by simp only [List.back?_toArray, List.getLast?_cons_cons, List.getLast?_singleton]; rfl) (by kernel_rfl) (by kernel_rfl) (Below.refl _ _).drew (fun hHeld => ?_)
      refine wpAnyH_take (i := 0) (oi := { dst := some 49, op := Op.move (Operand.tmp 2), type := 39, pos := _, after := #[], guard := none }) (v := .slice (some ⟨bl, 0, none⟩) L.length lc) rfl (by kernel_rfl) (by kernel_rfl) (by kernel_rfl) (fun _ _ _ h => h) (Or.inl ⟨by rfl, ?_⟩) hHeld ?_
      · intro u hu
        go_simp
      try simp only [Act.put, List.setIfInBounds_toArray, List.set_cons_zero, List.set_cons_succ]
      refine wpAnyH_take (i := 1) (oi := { dst := some 50, op := Op.move (Operand.tmp 11), type := 3, pos := _, after := #[], guard := none }) (v := .int .i64 (i : Int)) rfl (by kernel_rfl) (by kernel_rfl) (by kernel_rfl) (fun _ _ _ h => h) (Or.inl ⟨by rfl, ?_⟩) hHeld ?_
      · intro u hu
        go_simp
      try simp only [Act.put, List.setIfInBounds_toArray, List.set_cons_zero, List.set_cons_succ]
      refine wpAnyH_take (i := 2) (oi := { dst := some 51, op := Op.move (Operand.tmp 2), type := 39, pos := _, after := #[], guard := none }) (v := .slice (some ⟨bl, 0, none⟩) L.length lc) rfl (by kernel_rfl) (by kernel_rfl) (by kernel_rfl) (fun _ _ _ h => h) (Or.inl ⟨by rfl, ?_⟩) hHeld ?_
      · intro u hu
        go_simp
      try simp only [Act.put, List.setIfInBounds_toArray, List.set_cons_zero, List.set_cons_succ]
      refine wpAnyH_take (i := 3) (oi := { dst := some 52, op := Op.move (Operand.tmp 11), type := 3, pos := _, after := #[], guard := none }) (v := .int .i64 (i : Int)) rfl (by kernel_rfl) (by kernel_rfl) (by kernel_rfl) (fun _ _ _ h => h) (Or.inl ⟨by rfl, ?_⟩) hHeld ?_
      · intro u hu
        go_simp
      try simp only [Act.put, List.setIfInBounds_toArray, List.set_cons_zero, List.set_cons_succ]
      refine wpAnyH_take (i := 4) (oi := { dst := some 53, op := Op.indexAddr 39 (Operand.tmp 51) (Operand.tmp 52), type := 0, pos := _, after := #[{ on := 2, ground := Ground.data }, { on := 3, ground := Ground.data }], guard := none }) (v := .pointer (some ⟨bl, i * 9, none⟩)) rfl (by kernel_rfl) (by kernel_rfl) (by kernel_rfl) (fun _ _ _ h => h) (Or.inl ⟨by rfl, ?_⟩) hHeld ?_
      · intro u hu
        go_simp
      try simp only [Act.put, List.setIfInBounds_toArray, List.set_cons_zero, List.set_cons_succ]
      refine wpAnyH_take (i := 5) (oi := { dst := some 54, op := Op.fieldAddr 27 (Operand.tmp 53) 3, type := 0, pos := _, after := #[{ on := 4, ground := Ground.data }], guard := none }) (v := .pointer (some ⟨bl, i * 9 + 3, none⟩)) rfl (by kernel_rfl) (by kernel_rfl) (by kernel_rfl) (fun _ _ _ h => h) (Or.inl ⟨by rfl, ?_⟩) hHeld ?_
      · intro u hu
        go_simp
      try simp only [Act.put, List.setIfInBounds_toArray, List.set_cons_zero, List.set_cons_succ]
      refine wpAnyH_take (i := 6) (oi := { dst := some 55, op := Op.load 24 (Operand.tmp 54), type := 24, pos := _, after := #[{ on := 5, ground := Ground.data }], guard := none }) (v := .slice T.d.a T.d.n T.d.c) rfl (by kernel_rfl) (by kernel_rfl) (by kernel_rfl) (fun _ _ _ h => h) (Or.inl ⟨by rfl, ?_⟩) hHeld ?_
      · intro u hu
        have x1 := (Stp.of_below hu (fun _ => False)).cell c3 id; go_simp
      try simp only [Act.put, List.setIfInBounds_toArray, List.set_cons_zero, List.set_cons_succ]
      refine wpAnyH_take (i := 7) (oi := { dst := some 56, op := Op.move (Operand.tmp 2), type := 39, pos := _, after := #[], guard := none }) (v := .slice (some ⟨bl, 0, none⟩) L.length lc) rfl (by kernel_rfl) (by kernel_rfl) (by kernel_rfl) (fun _ _ _ h => h) (Or.inl ⟨by rfl, ?_⟩) hHeld ?_
      · intro u hu
        go_simp
      try simp only [Act.put, List.setIfInBounds_toArray, List.set_cons_zero, List.set_cons_succ]
      refine wpAnyH_take (i := 8) (oi := { dst := some 57, op := Op.move (Operand.tmp 11), type := 3, pos := _, after := #[], guard := none }) (v := .int .i64 (i : Int)) rfl (by kernel_rfl) (by kernel_rfl) (by kernel_rfl) (fun _ _ _ h => h) (Or.inl ⟨by rfl, ?_⟩) hHeld ?_
      · intro u hu
        go_simp
      try simp only [Act.put, List.setIfInBounds_toArray, List.set_cons_zero, List.set_cons_succ]
      refine wpAnyH_take (i := 9) (oi := { dst := some 58, op := Op.indexAddr 39 (Operand.tmp 56) (Operand.tmp 57), type := 0, pos := _, after := #[{ on := 7, ground := Ground.data }, { on := 8, ground := Ground.data }], guard := none }) (v := .pointer (some ⟨bl, i * 9, none⟩)) rfl (by kernel_rfl) (by kernel_rfl) (by kernel_rfl) (fun _ _ _ h => h) (Or.inl ⟨by rfl, ?_⟩) hHeld ?_
      · intro u hu
        go_simp
      try simp only [Act.put, List.setIfInBounds_toArray, List.set_cons_zero, List.set_cons_succ]
      refine wpAnyH_take (i := 10) (oi := { dst := some 59, op := Op.fieldAddr 27 (Operand.tmp 58) 3, type := 0, pos := _, after := #[{ on := 9, ground := Ground.data }], guard := none }) (v := .pointer (some ⟨bl, i * 9 + 3, none⟩)) rfl (by kernel_rfl) (by kernel_rfl) (by kernel_rfl) (fun _ _ _ h => h) (Or.inl ⟨by rfl, ?_⟩) hHeld ?_
      · intro u hu
        go_simp
      try simp only [Act.put, List.setIfInBounds_toArray, List.set_cons_zero, List.set_cons_succ]
      refine wpAnyH_take (i := 11) (oi := { dst := some 60, op := Op.load 24 (Operand.tmp 59), type := 24, pos := _, after := #[{ on := 10, ground := Ground.data }], guard := none }) (v := .slice T.d.a T.d.n T.d.c) rfl (by kernel_rfl) (by kernel_rfl) (by kernel_rfl) (fun _ _ _ h => h) (Or.inl ⟨by rfl, ?_⟩) hHeld ?_
      · intro u hu
        have x1 := (Stp.of_below hu (fun _ => False)).cell c3 id; go_simp
      try simp only [Act.put, List.setIfInBounds_toArray, List.set_cons_zero, List.set_cons_succ]
      refine wpAnyH_take (i := 12) (oi := { dst := some 61, op := Op.call { callee := Callee.builtin Builtin.len, args := #[Operand.tmp 60], argTypes := #[24] }, type := 3, pos := _, after := #[{ on := 11, ground := Ground.data }], guard := none }) (v := .int .i64 (T.d.n : Int)) rfl (by kernel_rfl) (by kernel_rfl) (by kernel_rfl) (fun _ _ _ h => h) (Or.inl ⟨by rfl, ?_⟩) hHeld ?_
      · intro u hu
        go_simp
      try simp only [Act.put, List.setIfInBounds_toArray, List.set_cons_zero, List.set_cons_succ]
      refine wpAnyH_take (i := 13) (oi := { dst := some 62, op := Op.call { callee := Callee.builtin Builtin.min, args := #[Operand.tmp 61, Operand.const (Value.int IntKind.i64 8)], argTypes := #[3, 3] }, type := 3, pos := _, after := #[{ on := 12, ground := Ground.data }], guard := none }) (v := .int .i64 ((min T.d.n 8 : Nat) : Int)) rfl (by kernel_rfl) (by kernel_rfl) (by kernel_rfl) (fun _ _ _ h => h) (Or.inl ⟨by rfl, ?_⟩) hHeld ?_
      · intro u hu
        go_simp
      try simp only [Act.put, List.setIfInBounds_toArray, List.set_cons_zero, List.set_cons_succ]
      refine wpAnyH_take (i := 14) (oi := { dst := some 63, op := Op.slice 24 (Operand.tmp 55) none (some (Operand.tmp 62)) none, type := 24, pos := _, after := #[{ on := 6, ground := Ground.data }, { on := 13, ground := Ground.data }], guard := none }) (v := .slice T.d.a (min T.d.n 8) T.d.c) rfl (by kernel_rfl) (by kernel_rfl) (by kernel_rfl) (fun _ _ _ h => h) (Or.inl ⟨by rfl, ?_⟩) hHeld ?_
      · intro u hu
        go_simp; intro hx9; exfalso; omega
      try simp only [Act.put, List.setIfInBounds_toArray, List.set_cons_zero, List.set_cons_succ]
      refine wpAnyH_take (i := 15) (oi := { dst := some 64, op := Op.indexAddr 39 (Operand.tmp 49) (Operand.tmp 50), type := 0, pos := _, after := #[{ on := 0, ground := Ground.data }, { on := 1, ground := Ground.data }, { on := 0, ground := Ground.phase }, { on := 1, ground := Ground.phase }, { on := 2, ground := Ground.phase }, { on := 3, ground := Ground.phase }, { on := 4, ground := Ground.phase }, { on := 5, ground := Ground.phase }, { on := 6, ground := Ground.phase }, { on := 7, ground := Ground.phase }, { on := 8, ground := Ground.phase }, { on := 9, ground := Ground.phase }, { on := 10, ground := Ground.phase }, { on := 11, ground := Ground.phase }, { on := 12, ground := Ground.phase }, { on := 13, ground := Ground.phase }, { on := 14, ground := Ground.phase }], guard := none }) (v := .pointer (some ⟨bl, i * 9, none⟩)) rfl (by kernel_rfl) (by kernel_rfl) (by kernel_rfl) (fun _ _ _ h => h) (Or.inl ⟨by rfl, ?_⟩) hHeld ?_
      · intro u hu
        go_simp
      try simp only [Act.put, List.setIfInBounds_toArray, List.set_cons_zero, List.set_cons_succ]
      refine wpAnyH_take (i := 16) (oi := { dst := some 65, op := Op.fieldAddr 27 (Operand.tmp 64) 3, type := 0, pos := _, after := #[{ on := 15, ground := Ground.data }, { on := 0, ground := Ground.phase }, { on := 1, ground := Ground.phase }, { on := 2, ground := Ground.phase }, { on := 3, ground := Ground.phase }, { on := 4, ground := Ground.phase }, { on := 5, ground := Ground.phase }, { on := 6, ground := Ground.phase }, { on := 7, ground := Ground.phase }, { on := 8, ground := Ground.phase }, { on := 9, ground := Ground.phase }, { on := 10, ground := Ground.phase }, { on := 11, ground := Ground.phase }, { on := 12, ground := Ground.phase }, { on := 13, ground := Ground.phase }, { on := 14, ground := Ground.phase }], guard := none }) (v := .pointer (some ⟨bl, i * 9 + 3, none⟩)) rfl (by kernel_rfl) (by kernel_rfl) (by kernel_rfl) (fun _ _ _ h => h) (Or.inl ⟨by rfl, ?_⟩) hHeld ?_
      · intro u hu
        go_simp
      try simp only [Act.put, List.setIfInBounds_toArray, List.set_cons_zero, List.set_cons_succ]
      refine wpAnyH_done (by kernel_rfl) ?_ _
      show wpList _ _ _ [_] _ _
      refine at_setJs (by rfl) _ _ (by rfl) (J2.later hHeld) hl2 i (by rfl) (pki (k : Int) i T) (pkid (k : Int) i T) ⟨T.d.a, min T.d.n 8, T.d.c⟩ (by rfl) hT2 rfl (hm2.later hHeld).cut8 wf3 ?_
      intro v3 J3
      rw [List.set_set] at J3
      have hT3 := set_at (t' := pkid (k : Int) i T) hTm
      have hl3 : (M.set i (pkid (k : Int) i T)).length = L.length := by rw [List.length_set]; exact hml
      have c2' : v3.cell? ⟨bl, i * 9 + 2, none⟩ = some (.int .i64 T.p.off) := (J3.ow.at' hl3 i _ hT3).1 2 _ rfl
      clear J2 hT2 hl2 hm2 c3 em1 le1 ld hHeld
      have hsplit : (∃ bw ob, a3 = some ⟨bw, ob, none⟩ ∧ (i : Int) < (n3 : Int) ∧ w1.cell? ⟨bw, ob + i, none⟩ = some (.bool (wl.getD i false))) ∨ ¬ (i : Int) < (n3 : Int) := by
        rcases Nat.lt_or_ge i n3 with hiw | hiw
        · obtain ⟨bw, ob, e3, hcw⟩ := h3'.cell (by omega)
          exact .inl ⟨bw, ob, e3, by omega, hcw i hiw⟩
        · exact .inr (by omega)
      have hidw : ∀ x ∈ idl, wfi x := fun x hx => wfi_of (by have := P.b x hx; omega)
      rcases hsplit with ⟨bw, ob, e3, a8, cw⟩ | a8
      all_goals try subst e3
      all_goals
        have t3 : Hid True := trivial
        go_wp2_with (first
          | (go_at_call 25; refine (among_any T.p.off 40 _ (by omega) (by omega)).mono ?_; rintro e v4 ⟨rfl, rfl⟩)
          | (clear t3; refine at_setJ (by rfl) _ _ (by rfl) J3 hl3 i 2 (i * 9 + 2) rfl (by rfl) (pkid (k : Int) i T) (mdT (k : Int) i T) ((among T.p.off 40 : Nat) : Int) (by rfl) hT3 (by omega) rfl rfl rfl rfl rfl wf4 ?_; intro v5 J5
             rw [List.set_set, hse.out] at J5
             try (have cw5 := (Stp.of_below J5.ff.b (fun _ => False)).cell cw id)
             clear J3 hT3 hl3 c2' hse hTm hml wf1 wf2 wf3 wf4 hwf))
        obtain ⟨⟨ia, ni, ic⟩, e10, hI⟩ := J5.ids hidw
        simp only at e10
        subst e10
        try clear cw5 cw
        go_loopw [12, 13] (fun o j wr => ∃ (okb : Bool) (kk : Nat), o = .bool okb ∧ j = .int .i64 (kk : Int) ∧ kk ≤ i ∧ Below v5.heap.size v5 wr ∧ (okb = true → ∀ (a : Nat) (A : Pe), a < kk → L[a]? = some A → hsI idl ((a : Int) + 1) = false → ¬ ovl (mdP (k : Int) a A.p) (mdP (k : Int) i T.p))) (fun _ j _ => i - (intOf j).toNat)
        case atStart => exact ⟨_, 0, rfl, rfl, Nat.zero_le _, Below.refl _ _, fun _ a A ha => by omega⟩
        case round =>
          obtain ⟨okb, kk, rfl, rfl, hki, hbk, hok⟩ := hrel
          have J6 := J5.later hbk
          by_cases hkk : kk < i
          · have a7 : (kk : Int) < (i : Int) := by omega
            have a6 : (kk : Int) < (L.length : Int) := by omega
            obtain ⟨A, hA⟩ : ∃ A, L[kk]? = some A := ⟨L[kk], List.getElem?_eq_getElem (by omega)⟩
            have hAm : (mdL (k : Int) L (i + 1))[kk]? = some (mdT (k : Int) kk A) := mdL_lt hA (by omega)
            have hTm : (mdL (k : Int) L (i + 1))[i]? = some (mdT (k : Int) i T) := mdL_lt hT (by omega)
            have rA := (J6.ow.at' (mdL_len _ _ _) kk _ hAm).1
            have rT := (J6.ow.at' (mdL_len _ _ _) i _ hTm).1
            have lA : (A.p.data.take 8).length = min A.d.n 8 := (J6.ms _ (List.mem_of_getElem? hAm)).bs.len
            have lT : (T.p.data.take 8).length = min T.d.n 8 := (J6.ms _ (List.mem_of_getElem? hTm)).bs.len
            have ck2 : wr.cell? ⟨bl, kk * 9 + 2, none⟩ = some (.int .i64 ((among A.p.off 40 : Nat) : Int)) := rA 2 _ rfl
            have ck3 : wr.cell? ⟨bl, kk * 9 + 3, none⟩ = some (.slice A.d.a (min A.d.n 8) A.d.c) := rA 3 _ rfl
            have ci2 : wr.cell? ⟨bl, i * 9 + 2, none⟩ = some (.int .i64 ((among T.p.off 40 : Nat) : Int)) := rT 2 _ rfl
            have ci3 : wr.cell? ⟨bl, i * 9 + 3, none⟩ = some (.slice T.d.a (min T.d.n 8) T.d.c) := rT 3 _ rfl
            have hov : Hid (ovl (mdP (k : Int) kk A.p) (mdP (k : Int) i T.p) ↔ (((among A.p.off 40 : Nat) : Int) < ((among T.p.off 40 : Nat) : Int) + ((min T.d.n 8 : Nat) : Int) ∧ ((among T.p.off 40 : Nat) : Int) < ((among A.p.off 40 : Nat) : Int) + ((min A.d.n 8 : Nat) : Int))) := by
              show _ ↔ _
              unfold ovl mdP
              simp only
              rw [lA, lT]
            have l1 := among_lt A.p.off 40 (by omega)
            have l2 := among_lt T.p.off 40 (by omega)
            have m1 : min A.d.n 8 ≤ 8 := by omega
            have m2 : min T.d.n 8 ≤ 8 := by omega
            clear rA rT lA lT hAm hTm
            generalize among A.p.off 40 = x1 at *
            generalize among T.p.off 40 = x2 at *
            generalize min A.d.n 8 = y1 at *
            generalize min T.d.n 8 = y2 at *
            have wr1 : IntKind.i64.wrap ((x2 : Int) + (y2 : Int)) = (x2 : Int) + (y2 : Int) := by rw [IntKind.wrap_i64]; omega
            have wr2 : IntKind.i64.wrap ((x1 : Int) + (y1 : Int)) = (x1 : Int) + (y1 : Int) := by rw [IntKind.wrap_i64]; omega
            have HB := bhas_any (hI.later hbk) ((kk : Int) + 1)
            cases hhs : hsI idl ((kk : Int) + 1) with
            | true =>
              rw [hhs] at HB
              skip
              go_wp2_with (first
                | (go_at_call 27; refine HB.mono ?_; rintro e v7 ⟨rfl, rfl⟩))
              refine wp_region_held_drew (S := fun u => Below wr.heap.size wr u) (by kernel_rfl) (Below.refl _ _).drew (fun hHeld => ?_)
              refine wpAnyH_take (i := 0) (oi := { dst := some 96, op := Op.move (Operand.tmp 14), type := 4, pos := _, after := #[], guard := none }) (v := .bool false) rfl (by kernel_rfl) (by kernel_rfl) (by kernel_rfl) (fun _ _ _ h => h) (Or.inl ⟨by rfl, ?_⟩) hHeld ?_
              · intro u hu
                go_simp
              try simp only [Act.put, List.setIfInBounds_toArray, List.set_cons_zero, List.set_cons_succ]
              refine wpAnyH_take (i := 1) (oi := { dst := some 97, op := Op.move (Operand.tmp 96), type := 4, pos := _, after := #[{ on := 0, ground := Ground.data }], guard := none }) (v := .bool false) rfl (by kernel_rfl) (by kernel_rfl) (by kernel_rfl) (fun _ _ _ h => h) (Or.inl ⟨by rfl, ?_⟩) hHeld ?_
              · intro u hu
                go_simp
              try simp only [Act.put, List.setIfInBounds_toArray, List.set_cons_zero, List.set_cons_succ]
              refine wpAnyH_take (i := 2) (oi := { dst := some 98, op := Op.move (Operand.tmp 2), type := 39, pos := _, after := #[{ on := 1, ground := Ground.guard }], guard := some (1, true) }) (v := undef) rfl (by kernel_rfl) (by kernel_rfl) (by kernel_rfl) (fun _ _ _ h => h)
                (Or.inr ⟨by rfl, rfl⟩) hHeld ?_
              try simp only [Act.put, List.setIfInBounds_toArray, List.set_cons_zero, List.set_cons_succ]
              refine wpAnyH_take (i := 3) (oi := { dst := some 99, op := Op.move (Operand.tmp 13), type := 3, pos := _, after := #[{ on := 1, ground := Ground.guard }], guard := some (1, true) }) (v := undef) rfl (by kernel_rfl) (by kernel_rfl) (by kernel_rfl) (fun _ _ _ h => h)
                (Or.inr ⟨by rfl, rfl⟩) hHeld ?_
              try simp only [Act.put, List.setIfInBounds_toArray, List.set_cons_zero, List.set_cons_succ]
              refine wpAnyH_take (i := 4) (oi := { dst := some 100, op := Op.indexAddr 39 (Operand.tmp 98) (Operand.tmp 99), type := 0, pos := _, after := #[{ on := 2, ground := Ground.data }, { on := 3, ground := Ground.data }, { on := 1, ground := Ground.guard }], guard := some (1, true) }) (v := undef) rfl (by kernel_rfl) (by kernel_rfl) (by kernel_rfl) (fun _ _ _ h => h)
                (Or.inr ⟨by rfl, rfl⟩) hHeld ?_
              try simp only [Act.put, List.setIfInBounds_toArray, List.set_cons_zero, List.set_cons_succ]
              refine wpAnyH_take (i := 5) (oi := { dst := some 101, op := Op.fieldAddr 27 (Operand.tmp 100) 2, type := 0, pos := _, after := #[{ on := 4, ground := Ground.data }, { on := 1, ground := Ground.guard }], guard := some (1, true) }) (v := undef) rfl (by kernel_rfl) (by kernel_rfl) (by kernel_rfl) (fun _ _ _ h => h)
                (Or.inr ⟨by rfl, rfl⟩) hHeld ?_
              try simp only [Act.put, List.setIfInBounds_toArray, List.set_cons_zero, List.set_cons_succ]
              refine wpAnyH_take (i := 6) (oi := { dst := some 102, op := Op.load 3 (Operand.tmp 101), type := 3, pos := _, after := #[{ on := 5, ground := Ground.data }, { on := 1, ground := Ground.guard }], guard := some (1, true) }) (v := undef) rfl (by kernel_rfl) (by kernel_rfl) (by kernel_rfl) (fun _ _ _ h => h)
                (Or.inr ⟨by rfl, rfl⟩) hHeld ?_
              try simp only [Act.put, List.setIfInBounds_toArray, List.set_cons_zero, List.set_cons_succ]
              refine wpAnyH_take (i := 7) (oi := { dst := some 103, op := Op.move (Operand.tmp 2), type := 39, pos := _, after := #[{ on := 1, ground := Ground.guard }], guard := some (1, true) }) (v := undef) rfl (by kernel_rfl) (by kernel_rfl) (by kernel_rfl) (fun _ _ _ h => h)
                (Or.inr ⟨by rfl, rfl⟩) hHeld ?_
              try simp only [Act.put, List.setIfInBounds_toArray, List.set_cons_zero, List.set_cons_succ]
              refine wpAnyH_take (i := 8) (oi := { dst := some 104, op := Op.move (Operand.tmp 11), type := 3, pos := _, after := #[{ on := 1, ground := Ground.guard }], guard := some (1, true) }) (v := undef) rfl (by kernel_rfl) (by kernel_rfl) (by kernel_rfl) (fun _ _ _ h => h)
                (Or.inr ⟨by rfl, rfl⟩) hHeld ?_
              try simp only [Act.put, List.setIfInBounds_toArray, List.set_cons_zero, List.set_cons_succ]
              refine wpAnyH_take (i := 9) (oi := { dst := some 105, op := Op.indexAddr 39 (Operand.tmp 103) (Operand.tmp 104), type := 0, pos := _, after := #[{ on := 7, ground := Ground.data }, { on := 8, ground := Ground.data }, { on := 1, ground := Ground.guard }], guard := some (1, true) }) (v := undef) rfl (by kernel_rfl) (by kernel_rfl) (by kernel_rfl) (fun _ _ _ h => h)
                (Or.inr ⟨by rfl, rfl⟩) hHeld ?_
              try simp only [Act.put, List.setIfInBounds_toArray, List.set_cons_zero, List.set_cons_succ]
              refine wpAnyH_take (i := 10) (oi := { dst := some 106, op := Op.fieldAddr 27 (Operand.tmp 105) 2, type := 0, pos := _, after := #[{ on := 9, ground := Ground.data }, { on := 1, ground := Ground.guard }], guard := some (1, true) }) (v := undef) rfl (by kernel_rfl) (by kernel_rfl) (by kernel_rfl) (fun _ _ _ h => h)
                (Or.inr ⟨by rfl, rfl⟩) hHeld ?_
              try simp only [Act.put, List.setIfInBounds_toArray, List.set_cons_zero, List.set_cons_succ]
              refine wpAnyH_take (i := 11) (oi := { dst := some 107, op := Op.load 3 (Operand.tmp 106), type := 3, pos := _, after := #[{ on := 10, ground := Ground.data }, { on := 1, ground := Ground.guard }], guard := some (1, true) }) (v := undef) rfl (by kernel_rfl) (by kernel_rfl) (by kernel_rfl) (fun _ _ _ h => h)
                (Or.inr ⟨by rfl, rfl⟩) hHeld ?_
              try simp only [Act.put, List.setIfInBounds_toArray, List.set_cons_zero, List.set_cons_succ]
              refine wpAnyH_take (i := 12) (oi := { dst := some 108, op := Op.move (Operand.tmp 2), type := 39, pos := _, after := #[{ on := 1, ground := Ground.guard }], guard := some (1, true) }) (v := undef) rfl (by kernel_rfl) (by kernel_rfl) (by kernel_rfl) (fun _ _ _ h => h)
                (Or.inr ⟨by rfl, rfl⟩) hHeld ?_
              try simp only [Act.put, List.setIfInBounds_toArray, List.set_cons_zero, List.set_cons_succ]
              refine wpAnyH_take (i := 13) (oi := { dst := some 109, op := Op.move (Operand.tmp 11), type := 3, pos := _, after := #[{ on := 1, ground := Ground.guard }], guard := some (1, true) }) (v := undef) rfl (by kernel_rfl) (by kernel_rfl) (by kernel_rfl) (fun _ _ _ h => h)
                (Or.inr ⟨by rfl, rfl⟩) hHeld ?_
              try simp only [Act.put, List.setIfInBounds_toArray, List.set_cons_zero, List.set_cons_succ]
              refine wpAnyH_take (i := 14) (oi := { dst := some 110, op := Op.indexAddr 39 (Operand.tmp 108) (Operand.tmp 109), type := 0, pos := _, after := #[{ on := 12, ground := Ground.data }, { on := 13, ground := Ground.data }, { on := 1, ground := Ground.guard }], guard := some (1, true) }) (v := undef) rfl (by kernel_rfl) (by kernel_rfl) (by kernel_rfl) (fun _ _ _ h => h)
                (Or.inr ⟨by rfl, rfl⟩) hHeld ?_
              try simp only [Act.put, List.setIfInBounds_toArray, List.set_cons_zero, List.set_cons_succ]
              refine wpAnyH_take (i := 15) (oi := { dst := some 111, op := Op.fieldAddr 27 (Operand.tmp 110) 3, type := 0, pos := _, after := #[{ on := 14, ground := Ground.data }, { on := 1, ground := Ground.guard }], guard := some (1, true) }) (v := undef) rfl (by kernel_rfl) (by kernel_rfl) (by kernel_rfl) (fun _ _ _ h => h)
                (Or.inr ⟨by rfl, rfl⟩) hHeld ?_
              try simp only [Act.put, List.setIfInBounds_toArray, List.set_cons_zero, List.set_cons_succ]
              refine wpAnyH_take (i := 16) (oi := { dst := some 112, op := Op.load 24 (Operand.tmp 111), type := 24, pos := _, after := #[{ on := 15, ground := Ground.data }, { on := 1, ground := Ground.guard }], guard := some (1, true) }) (v := undef) rfl (by kernel_rfl) (by kernel_rfl) (by kernel_rfl) (fun _ _ _ h => h)
                (Or.inr ⟨by rfl, rfl⟩) hHeld ?_
              try simp only [Act.put, List.setIfInBounds_toArray, List.set_cons_zero, List.set_cons_succ]
              refine wpAnyH_take (i := 17) (oi := { dst := some 113, op := Op.call { callee := Callee.builtin Builtin.len, args := #[Operand.tmp 112], argTypes := #[24] }, type := 3, pos := _, after := #[{ on := 16, ground := Ground.data }, { on := 1, ground := Ground.guard }], guard := some (1, true) }) (v := undef) rfl (by kernel_rfl) (by kernel_rfl) (by kernel_rfl) (fun _ _ _ h => h)
                (Or.inr ⟨by rfl, rfl⟩) hHeld ?_
              try simp only [Act.put, List.setIfInBounds_toArray, List.set_cons_zero, List.set_cons_succ]
              refine wpAnyH_take (i := 18) (oi := { dst := some 114, op := Op.binOp BinOp.add 3 (Operand.tmp 107) (Operand.tmp 113) 3, type := 3, pos := _, after := #[{ on := 11, ground := Ground.data }, { on := 17, ground := Ground.data }, { on := 1, ground := Ground.guard }], guard := some (1, true) }) (v := undef) rfl (by kernel_rfl) (by kernel_rfl) (by kernel_rfl) (fun _ _ _ h => h)
                (Or.inr ⟨by rfl, rfl⟩) hHeld ?_
              try simp only [Act.put, List.setIfInBounds_toArray, List.set_cons_zero, List.set_cons_succ]
              refine wpAnyH_take (i := 19) (oi := { dst := some 115, op := Op.binOp BinOp.lss 3 (Operand.tmp 102) (Operand.tmp 114) 3, type := 4, pos := _, after := #[{ on := 6, ground := Ground.data }, { on := 18, ground := Ground.data }, { on := 1, ground := Ground.guard }], guard := some (1, true) }) (v := undef) rfl (by kernel_rfl) (by kernel_rfl) (by kernel_rfl) (fun _ _ _ h => h)
                (Or.inr ⟨by rfl, rfl⟩) hHeld ?_
              try simp only [Act.put, List.setIfInBounds_toArray, List.set_cons_zero, List.set_cons_succ]
              refine wpAnyH_take (i := 20) (oi := { dst := some 116, op := Op.pick (Operand.tmp 97) (Operand.tmp 115) (Operand.const (Value.bool false)), type := 4, pos := _, after := #[{ on := 1, ground := Ground.data }, { on := 19, ground := Ground.data }], guard := none }) (v := .bool false) rfl (by kernel_rfl) (by kernel_rfl) (by kernel_rfl) (fun _ _ _ h => h) (Or.inl ⟨by rfl, ?_⟩) hHeld ?_
              · intro u hu
                go_simp
              try simp only [Act.put, List.setIfInBounds_toArray, List.set_cons_zero, List.set_cons_succ]
              refine wpAnyH_take (i := 21) (oi := { dst := some 117, op := Op.move (Operand.tmp 116), type := 4, pos := _, after := #[{ on := 20, ground := Ground.data }, { on := 1, ground := Ground.chain }], guard := none }) (v := .bool false) rfl (by kernel_rfl) (by kernel_rfl) (by kernel_rfl) (fun _ _ _ h => h) (Or.inl ⟨by rfl, ?_⟩) hHeld ?_
              · intro u hu
                go_simp
              try simp only [Act.put, List.setIfInBounds_toArray, List.set_cons_zero, List.set_cons_succ]
              refine wpAnyH_take (i := 22) (oi := { dst := some 118, op := Op.move (Operand.tmp 2), type := 39, pos := _, after := #[{ on := 21, ground := Ground.guard }], guard := some (21, true) }) (v := undef) rfl (by kernel_rfl) (by kernel_rfl) (by kernel_rfl) (fun _ _ _ h => h)
                (Or.inr ⟨by rfl, rfl⟩) hHeld ?_
              try simp only [Act.put, List.setIfInBounds_toArray, List.set_cons_zero, List.set_cons_succ]
              refine wpAnyH_take (i := 23) (oi := { dst := some 119, op := Op.move (Operand.tmp 11), type := 3, pos := _, after := #[{ on := 21, ground := Ground.guard }], guard := some (21, true) }) (v := undef) rfl (by kernel_rfl) (by kernel_rfl) (by kernel_rfl) (fun _ _ _ h => h)
                (Or.inr ⟨by rfl, rfl⟩) hHeld ?_
              try simp only [Act.put, List.setIfInBounds_toArray, List.set_cons_zero, List.set_cons_succ]
              refine wpAnyH_take (i := 24) (oi := { dst := some 120, op := Op.indexAddr 39 (Operand.tmp 118) (Operand.tmp 119), type := 0, pos := _, after := #[{ on := 22, ground := Ground.data }, { on := 23, ground := Ground.data }, { on := 21, ground := Ground.guard }], guard := some (21, true) }) (v := undef) rfl (by kernel_rfl) (by kernel_rfl) (by kernel_rfl) (fun _ _ _ h => h)
                (Or.inr ⟨by rfl, rfl⟩) hHeld ?_
              try simp only [Act.put, List.setIfInBounds_toArray, List.set_cons_zero, List.set_cons_succ]
              refine wpAnyH_take (i := 25) (oi := { dst := some 121, op := Op.fieldAddr 27 (Operand.tmp 120) 2, type := 0, pos := _, after := #[{ on := 24, ground := Ground.data }, { on := 21, ground := Ground.guard }], guard := some (21, true) }) (v := undef) rfl (by kernel_rfl) (by kernel_rfl) (by kernel_rfl) (fun _ _ _ h => h)
                (Or.inr ⟨by rfl, rfl⟩) hHeld ?_
              try simp only [Act.put, List.setIfInBounds_toArray, List.set_cons_zero, List.set_cons_succ]
              refine wpAnyH_take (i := 26) (oi := { dst := some 122, op := Op.load 3 (Operand.tmp 121), type := 3, pos := _, after := #[{ on := 25, ground := Ground.data }, { on := 21, ground := Ground.guard }], guard := some (21, true) }) (v := undef) rfl (by kernel_rfl) (by kernel_rfl) (by kernel_rfl) (fun _ _ _ h => h)
                (Or.inr ⟨by rfl, rfl⟩) hHeld ?_
              try simp only [Act.put, List.setIfInBounds_toArray, List.set_cons_zero, List.set_cons_succ]
              refine wpAnyH_take (i := 27) (oi := { dst := some 123, op := Op.move (Operand.tmp 2), type := 39, pos := _, after := #[{ on := 21, ground := Ground.guard }], guard := some (21, true) }) (v := undef) rfl (by kernel_rfl) (by kernel_rfl) (by kernel_rfl) (fun _ _ _ h => h)
                (Or.inr ⟨by rfl, rfl⟩) hHeld ?_
              try simp only [Act.put, List.setIfInBounds_toArray, List.set_cons_zero, List.set_cons_succ]
              refine wpAnyH_take (i := 28) (oi := { dst := some 124, op := Op.move (Operand.tmp 13), type := 3, pos := _, after := #[{ on := 21, ground := Ground.guard }], guard := some (21, true) }) (v := undef) rfl (by kernel_rfl) (by kernel_rfl) (by kernel_rfl) (fun _ _ _ h => h)
                (Or.inr ⟨by rfl, rfl⟩) hHeld ?_
              try simp only [Act.put, List.setIfInBounds_toArray, List.set_cons_zero, List.set_cons_succ]
              refine wpAnyH_take (i := 29) (oi := { dst := some 125, op := Op.indexAddr 39 (Operand.tmp 123) (Operand.tmp 124), type := 0, pos := _, after := #[{ on := 27, ground := Ground.data }, { on := 28, ground := Ground.data }, { on := 21, ground := Ground.guard }], guard := some (21, true) }) (v := undef) rfl (by kernel_rfl) (by kernel_rfl) (by kernel_rfl) (fun _ _ _ h => h)
                (Or.inr ⟨by rfl, rfl⟩) hHeld ?_
              try simp only [Act.put, List.setIfInBounds_toArray, List.set_cons_zero, List.set_cons_succ]
              refine wpAnyH_take (i := 30) (oi := { dst := some 126, op := Op.fieldAddr 27 (Operand.tmp 125) 2, type := 0, pos := _, after := #[{ on := 29, ground := Ground.data }, { on := 21, ground := Ground.guard }], guard := some (21, true) }) (v := undef) rfl (by kernel_rfl) (by kernel_rfl) (by kernel_rfl) (fun _ _ _ h => h)
                (Or.inr ⟨by rfl, rfl⟩) hHeld ?_
              try simp only [Act.put, List.setIfInBounds_toArray, List.set_cons_zero, List.set_cons_succ]
              refine wpAnyH_take (i := 31) (oi := { dst := some 127, op := Op.load 3 (Operand.tmp 126), type := 3, pos := _, after := #[{ on := 30, ground := Ground.data }, { on := 21, ground := Ground.guard }], guard := some (21, true) }) (v := undef) rfl (by kernel_rfl) (by kernel_rfl) (by kernel_rfl) (fun _ _ _ h => h)
                (Or.inr ⟨by rfl, rfl⟩) hHeld ?_
              try simp only [Act.put, List.setIfInBounds_toArray, List.set_cons_zero, List.set_cons_succ]
              refine wpAnyH_take (i := 32) (oi := { dst := some 128, op := Op.move (Operand.tmp 2), type := 39, pos := _, after := #[{ on := 21, ground := Ground.guard }], guard := some (21, true) }) (v := undef) rfl (by kernel_rfl) (by kernel_rfl) (by kernel_rfl) (fun _ _ _ h => h)
                (Or.inr ⟨by rfl, rfl⟩) hHeld ?_
              try simp only [Act.put, List.setIfInBounds_toArray, List.set_cons_zero, List.set_cons_succ]
              refine wpAnyH_take (i := 33) (oi := { dst := some 129, op := Op.move (Operand.tmp 13), type := 3, pos := _, after := #[{ on := 21, ground := Ground.guard }], guard := some (21, true) }) (v := undef) rfl (by kernel_rfl) (by kernel_rfl) (by kernel_rfl) (fun _ _ _ h => h)
                (Or.inr ⟨by rfl, rfl⟩) hHeld ?_
              try simp only [Act.put, List.setIfInBounds_toArray, List.set_cons_zero, List.set_cons_succ]
              refine wpAnyH_take (i := 34) (oi := { dst := some 130, op := Op.indexAddr 39 (Operand.tmp 128) (Operand.tmp 129), type := 0, pos := _, after := #[{ on := 32, ground := Ground.data }, { on := 33, ground := Ground.data }, { on := 21, ground := Ground.guard }], guard := some (21, true) }) (v := undef) rfl (by kernel_rfl) (by kernel_rfl) (by kernel_rfl) (fun _ _ _ h => h)
                (Or.inr ⟨by rfl, rfl⟩) hHeld ?_
              try simp only [Act.put, List.setIfInBounds_toArray, List.set_cons_zero, List.set_cons_succ]
              refine wpAnyH_take (i := 35) (oi := { dst := some 131, op := Op.fieldAddr 27 (Operand.tmp 130) 3, type := 0, pos := _, after := #[{ on := 34, ground := Ground.data }, { on := 21, ground := Ground.guard }], guard := some (21, true) }) (v := undef) rfl (by kernel_rfl) (by kernel_rfl) (by kernel_rfl) (fun _ _ _ h => h)
                (Or.inr ⟨by rfl, rfl⟩) hHeld ?_
              try simp only [Act.put, List.setIfInBounds_toArray, List.set_cons_zero, List.set_cons_succ]
              refine wpAnyH_take (i := 36) (oi := { dst := some 132, op := Op.load 24 (Operand.tmp 131), type := 24, pos := _, after := #[{ on := 35, ground := Ground.data }, { on := 21, ground := Ground.guard }], guard := some (21, true) }) (v := undef) rfl (by kernel_rfl) (by kernel_rfl) (by kernel_rfl) (fun _ _ _ h => h)
                (Or.inr ⟨by rfl, rfl⟩) hHeld ?_
              try simp only [Act.put, List.setIfInBounds_toArray, List.set_cons_zero, List.set_cons_succ]
              refine wpAnyH_take (i := 37) (oi := { dst := some 133, op := Op.call { callee := Callee.builtin Builtin.len, args := #[Operand.tmp 132], argTypes := #[24] }, type := 3, pos := _, after := #[{ on := 36, ground := Ground.data }, { on := 21, ground := Ground.guard }], guard := some (21, true) }) (v := undef) rfl (by kernel_rfl) (by kernel_rfl) (by kernel_rfl) (fun _ _ _ h => h)
                (Or.inr ⟨by rfl, rfl⟩) hHeld ?_
              try simp only [Act.put, List.setIfInBounds_toArray, List.set_cons_zero, List.set_cons_succ]
              refine wpAnyH_take (i := 38) (oi := { dst := some 134, op := Op.binOp BinOp.add 3 (Operand.tmp 127) (Operand.tmp 133) 3, type := 3, pos := _, after := #[{ on := 31, ground := Ground.data }, { on := 37, ground := Ground.data }, { on := 21, ground := Ground.guard }], guard := some (21, true) }) (v := undef) rfl (by kernel_rfl) (by kernel_rfl) (by kernel_rfl) (fun _ _ _ h => h)
                (Or.inr ⟨by rfl, rfl⟩) hHeld ?_
              try simp only [Act.put, List.setIfInBounds_toArray, List.set_cons_zero, List.set_cons_succ]
              refine wpAnyH_take (i := 39) (oi := { dst := some 135, op := Op.binOp BinOp.lss 3 (Operand.tmp 122) (Operand.tmp 134) 3, type := 4, pos := _, after := #[{ on := 26, ground := Ground.data }, { on := 38, ground := Ground.data }, { on := 21, ground := Ground.guard }], guard := some (21, true) }) (v := undef) rfl (by kernel_rfl) (by kernel_rfl) (by kernel_rfl) (fun _ _ _ h => h)
                (Or.inr ⟨by rfl, rfl⟩) hHeld ?_
              try simp only [Act.put, List.setIfInBounds_toArray, List.set_cons_zero, List.set_cons_succ]
              refine wpAnyH_take (i := 40) (oi := { dst := some 136, op := Op.pick (Operand.tmp 117) (Operand.tmp 135) (Operand.const (Value.bool false)), type := 4, pos := _, after := #[{ on := 21, ground := Ground.data }, { on := 39, ground := Ground.data }], guard := none }) (v := .bool false) rfl (by kernel_rfl) (by kernel_rfl) (by kernel_rfl) (fun _ _ _ h => h) (Or.inl ⟨by rfl, ?_⟩) hHeld ?_
              · intro u hu
                go_simp
              try simp only [Act.put, List.setIfInBounds_toArray, List.set_cons_zero, List.set_cons_succ]
              refine wpAnyH_done (by kernel_rfl) ?_ _
              clear HB
              go_wp2_with fail
              go_roundw
              case rel => exact ⟨okb, kk + 1, rfl, by go_num, by omega, bnext hbk hHeld (Nat.le_refl _), (fun ho a C ha hC hh => by rcases Nat.lt_or_ge a kk with h9 | h9; exact hok ho a C h9 hC hh; obtain rfl : a = kk := (by omega); rw [hA] at hC; injection hC with hC; subst hC; (rw [hh] at hhs; cases hhs))⟩
              case measure => simp [intOf]; omega
            | false =>
              rw [hhs] at HB
              by_cases q1 : (x1 : Int) < (x2 : Int) + (y2 : Int)
              · by_cases q2 : (x2 : Int) < (x1 : Int) + (y1 : Int)
                · skip
                  skip
                  go_wp2_with (first
                    | (go_at_call 27; refine HB.mono ?_; rintro e v7 ⟨rfl, rfl⟩))
                  refine wp_region_held_drew (S := fun u => Below wr.heap.size wr u) (by kernel_rfl) (Below.refl _ _).drew (fun hHeld => ?_)
                  refine wpAnyH_take (i := 0) (oi := { dst := some 96, op := Op.move (Operand.tmp 14), type := 4, pos := _, after := #[], guard := none }) (v := .bool true) rfl (by kernel_rfl) (by kernel_rfl) (by kernel_rfl) (fun _ _ _ h => h) (Or.inl ⟨by rfl, ?_⟩) hHeld ?_
                  · intro u hu
                    go_simp
                  try simp only [Act.put, List.setIfInBounds_toArray, List.set_cons_zero, List.set_cons_succ]
                  refine wpAnyH_take (i := 1) (oi := { dst := some 97, op := Op.move (Operand.tmp 96), type := 4, pos := _, after := #[{ on := 0, ground := Ground.data }], guard := none }) (v := .bool true) rfl (by kernel_rfl) (by kernel_rfl) (by kernel_rfl) (fun _ _ _ h => h) (Or.inl ⟨by rfl, ?_⟩) hHeld ?_
                  · intro u hu
                    go_simp
                  try simp only [Act.put, List.setIfInBounds_toArray, List.set_cons_zero, List.set_cons_succ]
                  refine wpAnyH_take (i := 2) (oi := { dst := some 98, op := Op.move (Operand.tmp 2), type := 39, pos := _, after := #[{ on := 1, ground := Ground.guard }], guard := some (1, true) }) (v := .slice (some ⟨bl, 0, none⟩) L.length lc) rfl (by kernel_rfl) (by kernel_rfl) (by kernel_rfl) (fun _ _ _ h => h) (Or.inl ⟨by rfl, ?_⟩) hHeld ?_
                  · intro u hu
                    go_simp
                  try simp only [Act.put, List.setIfInBounds_toArray, List.set_cons_zero, List.set_cons_succ]
                  refine wpAnyH_take (i := 3) (oi := { dst := some 99, op := Op.move (Operand.tmp 13), type := 3, pos := _, after := #[{ on := 1, ground := Ground.guard }], guard := some (1, true) }) (v := .int .i64 (kk : Int)) rfl (by kernel_rfl) (by kernel_rfl) (by kernel_rfl) (fun _ _ _ h => h) (Or.inl ⟨by rfl, ?_⟩) hHeld ?_
                  · intro u hu
                    go_simp
                  try simp only [Act.put, List.setIfInBounds_toArray, List.set_cons_zero, List.set_cons_succ]
                  refine wpAnyH_take (i := 4) (oi := { dst := some 100, op := Op.indexAddr 39 (Operand.tmp 98) (Operand.tmp 99), type := 0, pos := _, after := #[{ on := 2, ground := Ground.data }, { on := 3, ground := Ground.data }, { on := 1, ground := Ground.guard }], guard := some (1, true) }) (v := .pointer (some ⟨bl, kk * 9, none⟩)) rfl (by kernel_rfl) (by kernel_rfl) (by kernel_rfl) (fun _ _ _ h => h) (Or.inl ⟨by rfl, ?_⟩) hHeld ?_
                  · intro u hu
                    go_simp
                  try simp only [Act.put, List.setIfInBounds_toArray, List.set_cons_zero, List.set_cons_succ]
                  refine wpAnyH_take (i := 5) (oi := { dst := some 101, op := Op.fieldAddr 27 (Operand.tmp 100) 2, type := 0, pos := _, after := #[{ on := 4, ground := Ground.data }, { on := 1, ground := Ground.guard }], guard := some (1, true) }) (v := .pointer (some ⟨bl, kk * 9 + 2, none⟩)) rfl (by kernel_rfl) (by kernel_rfl) (by kernel_rfl) (fun _ _ _ h => h) (Or.inl ⟨by rfl, ?_⟩) hHeld ?_
                  · intro u hu
                    go_simp
                  try simp only [Act.put, List.setIfInBounds_toArray, List.set_cons_zero, List.set_cons_succ]
                  refine wpAnyH_take (i := 6) (oi := { dst := some 102, op := Op.load 3 (Operand.tmp 101), type := 3, pos := _, after := #[{ on := 5, ground := Ground.data }, { on := 1, ground := Ground.guard }], guard := some (1, true) }) (v := .int .i64 (x1 : Int)) rfl (by kernel_rfl) (by kernel_rfl) (by kernel_rfl) (fun _ _ _ h => h) (Or.inl ⟨by rfl, ?_⟩) hHeld ?_
                  · intro u hu
                    have x9 := (Stp.of_below hu (fun _ => False)).cell ck2 id; go_simp
                  try simp only [Act.put, List.setIfInBounds_toArray, List.set_cons_zero, List.set_cons_succ]
                  refine wpAnyH_take (i := 7) (oi := { dst := some 103, op := Op.move (Operand.tmp 2), type := 39, pos := _, after := #[{ on := 1, ground := Ground.guard }], guard := some (1, true) }) (v := .slice (some ⟨bl, 0, none⟩) L.length lc) rfl (by kernel_rfl) (by kernel_rfl) (by kernel_rfl) (fun _ _ _ h => h) (Or.inl ⟨by rfl, ?_⟩) hHeld ?_
                  · intro u hu
                    go_simp
                  try simp only [Act.put, List.setIfInBounds_toArray, List.set_cons_zero, List.set_cons_succ]
                  refine wpAnyH_take (i := 8) (oi := { dst := some 104, op := Op.move (Operand.tmp 11), type := 3, pos := _, after := #[{ on := 1, ground := Ground.guard }], guard := some (1, true) }) (v := .int .i64 (i : Int)) rfl (by kernel_rfl) (by kernel_rfl) (by kernel_rfl) (fun _ _ _ h => h) (Or.inl ⟨by rfl, ?_⟩) hHeld ?_
                  · intro u hu
                    go_simp
                  try simp only [Act.put, List.setIfInBounds_toArray, List.set_cons_zero, List.set_cons_succ]
                  refine wpAnyH_take (i := 9) (oi := { dst := some 105, op := Op.indexAddr 39 (Operand.tmp 103) (Operand.tmp 104), type := 0, pos := _, after := #[{ on := 7, ground := Ground.data }, { on := 8, ground := Ground.data }, { on := 1, ground := Ground.guard }], guard := some (1, true) }) (v := .pointer (some ⟨bl, i * 9, none⟩)) rfl (by kernel_rfl) (by kernel_rfl) (by kernel_rfl) (fun _ _ _ h => h) (Or.inl ⟨by rfl, ?_⟩) hHeld ?_
                  · intro u hu
                    go_simp
                  try simp only [Act.put, List.setIfInBounds_toArray, List.set_cons_zero, List.set_cons_succ]
                  refine wpAnyH_take (i := 10) (oi := { dst := some 106, op := Op.fieldAddr 27 (Operand.tmp 105) 2, type := 0, pos := _, after := #[{ on := 9, ground := Ground.data }, { on := 1, ground := Ground.guard }], guard := some (1, true) }) (v := .pointer (some ⟨bl, i * 9 + 2, none⟩)) rfl (by kernel_rfl) (by kernel_rfl) (by kernel_rfl) (fun _ _ _ h => h) (Or.inl ⟨by rfl, ?_⟩) hHeld ?_
                  · intro u hu
                    go_simp
                  try simp only [Act.put, List.setIfInBounds_toArray, List.set_cons_zero, List.set_cons_succ]
                  refine wpAnyH_take (i := 11) (oi := { dst := some 107, op := Op.load 3 (Operand.tmp 106), type := 3, pos := _, after := #[{ on := 10, ground := Ground.data }, { on := 1, ground := Ground.guard }], guard := some (1, true) }) (v := .int .i64 (x2 : Int)) rfl (by kernel_rfl) (by kernel_rfl) (by kernel_rfl) (fun _ _ _ h => h) (Or.inl ⟨by rfl, ?_⟩) hHeld ?_
                  · intro u hu
                    have x9 := (Stp.of_below hu (fun _ => False)).cell ci2 id; go_simp
                  try simp only [Act.put, List.setIfInBounds_toArray, List.set_cons_zero, List.set_cons_succ]
                  refine wpAnyH_take (i := 12) (oi := { dst := some 108, op := Op.move (Operand.tmp 2), type := 39, pos := _, after := #[{ on := 1, ground := Ground.guard }], guard := some (1, true) }) (v := .slice (some ⟨bl, 0, none⟩) L.length lc) rfl (by kernel_rfl) (by kernel_rfl) (by kernel_rfl) (fun _ _ _ h => h) (Or.inl ⟨by rfl, ?_⟩) hHeld ?_
                  · intro u hu
                    go_simp
                  try simp only [Act.put, List.setIfInBounds_toArray, List.set_cons_zero, List.set_cons_succ]
                  refine wpAnyH_take (i := 13) (oi := { dst := some 109, op := Op.move (Operand.tmp 11), type := 3, pos := _, after := #[{ on := 1, ground := Ground.guard }], guard := some (1, true) }) (v := .int .i64 (i : Int)) rfl (by kernel_rfl) (by kernel_rfl) (by kernel_rfl) (fun _ _ _ h => h) (Or.inl ⟨by rfl, ?_⟩) hHeld ?_
                  · intro u hu
                    go_simp
                  try simp only [Act.put, List.setIfInBounds_toArray, List.set_cons_zero, List.set_cons_succ]
                  refine wpAnyH_take (i := 14) (oi := { dst := some 110, op := Op.indexAddr 39 (Operand.tmp 108) (Operand.tmp 109), type := 0, pos := _, after := #[{ on := 12, ground := Ground.data }, { on := 13, ground := Ground.data }, { on := 1, ground := Ground.guard }], guard := some (1, true) }) (v := .pointer (some ⟨bl, i * 9, none⟩)) rfl (by kernel_rfl) (by kernel_rfl) (by kernel_rfl) (fun _ _ _ h => h) (Or.inl ⟨by rfl, ?_⟩) hHeld ?_
                  · intro u hu
                    go_simp
                  try simp only [Act.put, List.setIfInBounds_toArray, List.set_cons_zero, List.set_cons_succ]
                  refine wpAnyH_take (i := 15) (oi := { dst := some 111, op := Op.fieldAddr 27 (Operand.tmp 110) 3, type := 0, pos := _, after := #[{ on := 14, ground := Ground.data }, { on := 1, ground := Ground.guard }], guard := some (1, true) }) (v := .pointer (some ⟨bl, i * 9 + 3, none⟩)) rfl (by kernel_rfl) (by kernel_rfl) (by kernel_rfl) (fun _ _ _ h => h) (Or.inl ⟨by rfl, ?_⟩) hHeld ?_
                  · intro u hu
                    go_simp
                  try simp only [Act.put, List.setIfInBounds_toArray, List.set_cons_zero, List.set_cons_succ]
                  refine wpAnyH_take (i := 16) (oi := { dst := some 112, op := Op.load 24 (Operand.tmp 111), type := 24, pos := _, after := #[{ on := 15, ground := Ground.data }, { on := 1, ground := Ground.guard }], guard := some (1, true) }) (v := .slice T.d.a y2 T.d.c) rfl (by kernel_rfl) (by kernel_rfl) (by kernel_rfl) (fun _ _ _ h => h) (Or.inl ⟨by rfl, ?_⟩) hHeld ?_
                  · intro u hu
                    have x9 := (Stp.of_below hu (fun _ => False)).cell ci3 id; go_simp
                  try simp only [Act.put, List.setIfInBounds_toArray, List.set_cons_zero, List.set_cons_succ]
                  refine wpAnyH_take (i := 17) (oi := { dst := some 113, op := Op.call { callee := Callee.builtin Builtin.len, args := #[Operand.tmp 112], argTypes := #[24] }, type := 3, pos := _, after := #[{ on := 16, ground := Ground.data }, { on := 1, ground := Ground.guard }], guard := some (1, true) }) (v := .int .i64 (y2 : Int)) rfl (by kernel_rfl) (by kernel_rfl) (by kernel_rfl) (fun _ _ _ h => h) (Or.inl ⟨by rfl, ?_⟩) hHeld ?_
                  · intro u hu
                    go_simp
                  try simp only [Act.put, List.setIfInBounds_toArray, List.set_cons_zero, List.set_cons_succ]
                  refine wpAnyH_take (i := 18) (oi := { dst := some 114, op := Op.binOp BinOp.add 3 (Operand.tmp 107) (Operand.tmp 113) 3, type := 3, pos := _, after := #[{ on := 11, ground := Ground.data }, { on := 17, ground := Ground.data }, { on := 1, ground := Ground.guard }], guard := some (1, true) }) (v := .int .i64 ((x2 : Int) + (y2 : Int))) rfl (by kernel_rfl) (by kernel_rfl) (by kernel_rfl) (fun _ _ _ h => h) (Or.inl ⟨by rfl, ?_⟩) hHeld ?_
                  · intro u hu
                    go_simp
                  try simp only [Act.put, List.setIfInBounds_toArray, List.set_cons_zero, List.set_cons_succ]
                  refine wpAnyH_take (i := 19) (oi := { dst := some 115, op := Op.binOp BinOp.lss 3 (Operand.tmp 102) (Operand.tmp 114) 3, type := 4, pos := _, after := #[{ on := 6, ground := Ground.data }, { on := 18, ground := Ground.data }, { on := 1, ground := Ground.guard }], guard := some (1, true) }) (v := .bool true) rfl (by kernel_rfl) (by kernel_rfl) (by kernel_rfl) (fun _ _ _ h => h) (Or.inl ⟨by rfl, ?_⟩) hHeld ?_
                  · intro u hu
                    go_simp
                  try simp only [Act.put, List.setIfInBounds_toArray, List.set_cons_zero, List.set_cons_succ]
                  refine wpAnyH_take (i := 20) (oi := { dst := some 116, op := Op.pick (Operand.tmp 97) (Operand.tmp 115) (Operand.const (Value.bool false)), type := 4, pos := _, after := #[{ on := 1, ground := Ground.data }, { on := 19, ground := Ground.data }], guard := none }) (v := .bool true) rfl (by kernel_rfl) (by kernel_rfl) (by kernel_rfl) (fun _ _ _ h => h) (Or.inl ⟨by rfl, ?_⟩) hHeld ?_
                  · intro u hu
                    go_simp
                  try simp only [Act.put, List.setIfInBounds_toArray, List.set_cons_zero, List.set_cons_succ]
                  refine wpAnyH_take (i := 21) (oi := { dst := some 117, op := Op.move (Operand.tmp 116), type := 4, pos := _, after := #[{ on := 20, ground := Ground.data }, { on := 1, ground := Ground.chain }], guard := none }) (v := .bool true) rfl (by kernel_rfl) (by kernel_rfl) (by kernel_rfl) (fun _ _ _ h => h) (Or.inl ⟨by rfl, ?_⟩) hHeld ?_
                  · intro u hu
                    go_simp
                  try simp only [Act.put, List.setIfInBounds_toArray, List.set_cons_zero, List.set_cons_succ]
                  refine wpAnyH_take (i := 22) (oi := { dst := some 118, op := Op.move (Operand.tmp 2), type := 39, pos := _, after := #[{ on := 21, ground := Ground.guard }], guard := some (21, true) }) (v := .slice (some ⟨bl, 0, none⟩) L.length lc) rfl (by kernel_rfl) (by kernel_rfl) (by kernel_rfl) (fun _ _ _ h => h) (Or.inl ⟨by rfl, ?_⟩) hHeld ?_
                  · intro u hu
                    go_simp
                  try simp only [Act.put, List.setIfInBounds_toArray, List.set_cons_zero, List.set_cons_succ]
                  refine wpAnyH_take (i := 23) (oi := { dst := some 119, op := Op.move (Operand.tmp 11), type := 3, pos := _, after := #[{ on := 21, ground := Ground.guard }], guard := some (21, true) }) (v := .int .i64 (i : Int)) rfl (by kernel_rfl) (by kernel_rfl) (by kernel_rfl) (fun _ _ _ h => h) (Or.inl ⟨by rfl, ?_⟩) hHeld ?_
                  · intro u hu
                    go_simp
                  try simp only [Act.put, List.setIfInBounds_toArray, List.set_cons_zero, List.set_cons_succ]
                  refine wpAnyH_take (i := 24) (oi := { dst := some 120, op := Op.indexAddr 39 (Operand.tmp 118) (Operand.tmp 119), type := 0, pos := _, after := #[{ on := 22, ground := Ground.data }, { on := 23, ground := Ground.data }, { on := 21, ground := Ground.guard }], guard := some (21, true) }) (v := .pointer (some ⟨bl, i * 9, none⟩)) rfl (by kernel_rfl) (by kernel_rfl) (by kernel_rfl) (fun _ _ _ h => h) (Or.inl ⟨by rfl, ?_⟩) hHeld ?_
                  · intro u hu
                    go_simp
                  try simp only [Act.put, List.setIfInBounds_toArray, List.set_cons_zero, List.set_cons_succ]
                  refine wpAnyH_take (i := 25) (oi := { dst := some 121, op := Op.fieldAddr 27 (Operand.tmp 120) 2, type := 0, pos := _, after := #[{ on := 24, ground := Ground.data }, { on := 21, ground := Ground.guard }], guard := some (21, true) }) (v := .pointer (some ⟨bl, i * 9 + 2, none⟩)) rfl (by kernel_rfl) (by kernel_rfl) (by kernel_rfl) (fun _ _ _ h => h) (Or.inl ⟨by rfl, ?_⟩) hHeld ?_
                  · intro u hu
                    go_simp
                  try simp only [Act.put, List.setIfInBounds_toArray, List.set_cons_zero, List.set_cons_succ]
                  refine wpAnyH_take (i := 26) (oi := { dst := some 122, op := Op.load 3 (Operand.tmp 121), type := 3, pos := _, after := #[{ on := 25, ground := Ground.data }, { on := 21, ground := Ground.guard }], guard := some (21, true) }) (v := .int .i64 (x2 : Int)) rfl (by kernel_rfl) (by kernel_rfl) (by kernel_rfl) (fun _ _ _ h => h) (Or.inl ⟨by rfl, ?_⟩) hHeld ?_
                  · intro u hu
                    have x9 := (Stp.of_below hu (fun _ => False)).cell ci2 id; go_simp
                  try simp only [Act.put, List.setIfInBounds_toArray, List.set_cons_zero, List.set_cons_succ]
                  refine wpAnyH_take (i := 27) (oi := { dst := some 123, op := Op.move (Operand.tmp 2), type := 39, pos := _, after := #[{ on := 21, ground := Ground.guard }], guard := some (21, true) }) (v := .slice (some ⟨bl, 0, none⟩) L.length lc) rfl (by kernel_rfl) (by kernel_rfl) (by kernel_rfl) (fun _ _ _ h => h) (Or.inl ⟨by rfl, ?_⟩) hHeld ?_
                  · intro u hu
                    go_simp
                  try simp only [Act.put, List.setIfInBounds_toArray, List.set_cons_zero, List.set_cons_succ]
                  refine wpAnyH_take (i := 28) (oi := { dst := some 124, op := Op.move (Operand.tmp 13), type := 3, pos := _, after := #[{ on := 21, ground := Ground.guard }], guard := some (21, true) }) (v := .int .i64 (kk : Int)) rfl (by kernel_rfl) (by kernel_rfl) (by kernel_rfl) (fun _ _ _ h => h) (Or.inl ⟨by rfl, ?_⟩) hHeld ?_
                  · intro u hu
                    go_simp
                  try simp only [Act.put, List.setIfInBounds_toArray, List.set_cons_zero, List.set_cons_succ]
                  refine wpAnyH_take (i := 29) (oi := { dst := some 125, op := Op.indexAddr 39 (Operand.tmp 123) (Operand.tmp 124), type := 0, pos := _, after := #[{ on := 27, ground := Ground.data }, { on := 28, ground := Ground.data }, { on := 21, ground := Ground.guard }], guard := some (21, true) }) (v := .pointer (some ⟨bl, kk * 9, none⟩)) rfl (by kernel_rfl) (by kernel_rfl) (by kernel_rfl) (fun _ _ _ h => h) (Or.inl ⟨by rfl, ?_⟩) hHeld ?_
                  · intro u hu
                    go_simp
                  try simp only [Act.put, List.setIfInBounds_toArray, List.set_cons_zero, List.set_cons_succ]
                  refine wpAnyH_take (i := 30) (oi := { dst := some 126, op := Op.fieldAddr 27 (Operand.tmp 125) 2, type := 0, pos := _, after := #[{ on := 29, ground := Ground.data }, { on := 21, ground := Ground.guard }], guard := some (21, true) }) (v := .pointer (some ⟨bl, kk * 9 + 2, none⟩)) rfl (by kernel_rfl) (by kernel_rfl) (by kernel_rfl) (fun _ _ _ h => h) (Or.inl ⟨by rfl, ?_⟩) hHeld ?_
                  · intro u hu
                    go_simp
                  try simp only [Act.put, List.setIfInBounds_toArray, List.set_cons_zero, List.set_cons_succ]
                  refine wpAnyH_take (i := 31) (oi := { dst := some 127, op := Op.load 3 (Operand.tmp 126), type := 3, pos := _, after := #[{ on := 30, ground := Ground.data }, { on := 21, ground := Ground.guard }], guard := some (21, true) }) (v := .int .i64 (x1 : Int)) rfl (by kernel_rfl) (by kernel_rfl) (by kernel_rfl) (fun _ _ _ h => h) (Or.inl ⟨by rfl, ?_⟩) hHeld ?_
                  · intro u hu
                    have x9 := (Stp.of_below hu (fun _ => False)).cell ck2 id; go_simp
                  try simp only [Act.put, List.setIfInBounds_toArray, List.set_cons_zero, List.set_cons_succ]
                  refine wpAnyH_take (i := 32) (oi := { dst := some 128, op := Op.move (Operand.tmp 2), type := 39, pos := _, after := #[{ on := 21, ground := Ground.guard }], guard := some (21, true) }) (v := .slice (some ⟨bl, 0, none⟩) L.length lc) rfl (by kernel_rfl) (by kernel_rfl) (by kernel_rfl) (fun _ _ _ h => h) (Or.inl ⟨by rfl, ?_⟩) hHeld ?_
                  · intro u hu
                    go_simp
                  try simp only [Act.put, List.setIfInBounds_toArray, List.set_cons_zero, List.set_cons_succ]
                  refine wpAnyH_take (i := 33) (oi := { dst := some 129, op := Op.move (Operand.tmp 13), type := 3, pos := _, after := #[{ on := 21, ground := Ground.guard }], guard := some (21, true) }) (v := .int .i64 (kk : Int)) rfl (by kernel_rfl) (by kernel_rfl) (by kernel_rfl) (fun _ _ _ h => h) (Or.inl ⟨by rfl, ?_⟩) hHeld ?_
                  · intro u hu
                    go_simp
                  try simp only [Act.put, List.setIfInBounds_toArray, List.set_cons_zero, List.set_cons_succ]
                  refine wpAnyH_take (i := 34) (oi := { dst := some 130, op := Op.indexAddr 39 (Operand.tmp 128) (Operand.tmp 129), type := 0, pos := _, after := #[{ on := 32, ground := Ground.data }, { on := 33, ground := Ground.data }, { on := 21, ground := Ground.guard }], guard := some (21, true) }) (v := .pointer (some ⟨bl, kk * 9, none⟩)) rfl (by kernel_rfl) (by kernel_rfl) (by kernel_rfl) (fun _ _ _ h => h) (Or.inl ⟨by rfl, ?_⟩) hHeld ?_
                  · intro u hu
                    go_simp
                  try simp only [Act.put, List.setIfInBounds_toArray, List.set_cons_zero, List.set_cons_succ]
                  refine wpAnyH_take (i := 35) (oi := { dst := some 131, op := Op.fieldAddr 27 (Operand.tmp 130) 3, type := 0, pos := _, after := #[{ on := 34, ground := Ground.data }, { on := 21, ground := Ground.guard }], guard := some (21, true) }) (v := .pointer (some ⟨bl, kk * 9 + 3, none⟩)) rfl (by kernel_rfl) (by kernel_rfl) (by kernel_rfl) (fun _ _ _ h => h) (Or.inl ⟨by rfl, ?_⟩) hHeld ?_
                  · intro u hu
                    go_simp
                  try simp only [Act.put, List.setIfInBounds_toArray, List.set_cons_zero, List.set_cons_succ]
                  refine wpAnyH_take (i := 36) (oi := { dst := some 132, op := Op.load 24 (Operand.tmp 131), type := 24, pos := _, after := #[{ on := 35, ground := Ground.data }, { on := 21, ground := Ground.guard }], guard := some (21, true) }) (v := .slice A.d.a y1 A.d.c) rfl (by kernel_rfl) (by kernel_rfl) (by kernel_rfl) (fun _ _ _ h => h) (Or.inl ⟨by rfl, ?_⟩) hHeld ?_
                  · intro u hu
                    have x9 := (Stp.of_below hu (fun _ => False)).cell ck3 id; go_simp
                  try simp only [Act.put, List.setIfInBounds_toArray, List.set_cons_zero, List.set_cons_succ]
                  refine wpAnyH_take (i := 37) (oi := { dst := some 133, op := Op.call { callee := Callee.builtin Builtin.len, args := #[Operand.tmp 132], argTypes := #[24] }, type := 3, pos := _, after := #[{ on := 36, ground := Ground.data }, { on := 21, ground := Ground.guard }], guard := some (21, true) }) (v := .int .i64 (y1 : Int)) rfl (by kernel_rfl) (by kernel_rfl) (by kernel_rfl) (fun _ _ _ h => h) (Or.inl ⟨by rfl, ?_⟩) hHeld ?_
                  · intro u hu
                    go_simp
                  try simp only [Act.put, List.setIfInBounds_toArray, List.set_cons_zero, List.set_cons_succ]
                  refine wpAnyH_take (i := 38) (oi := { dst := some 134, op := Op.binOp BinOp.add 3 (Operand.tmp 127) (Operand.tmp 133) 3, type := 3, pos := _, after := #[{ on := 31, ground := Ground.data }, { on := 37, ground := Ground.data }, { on := 21, ground := Ground.guard }], guard := some (21, true) }) (v := .int .i64 ((x1 : Int) + (y1 : Int))) rfl (by kernel_rfl) (by kernel_rfl) (by kernel_rfl) (fun _ _ _ h => h) (Or.inl ⟨by rfl, ?_⟩) hHeld ?_
                  · intro u hu
                    go_simp
                  try simp only [Act.put, List.setIfInBounds_toArray, List.set_cons_zero, List.set_cons_succ]
                  refine wpAnyH_take (i := 39) (oi := { dst := some 135, op := Op.binOp BinOp.lss 3 (Operand.tmp 122) (Operand.tmp 134) 3, type := 4, pos := _, after := #[{ on := 26, ground := Ground.data }, { on := 38, ground := Ground.data }, { on := 21, ground := Ground.guard }], guard := some (21, true) }) (v := .bool true) rfl (by kernel_rfl) (by kernel_rfl) (by kernel_rfl) (fun _ _ _ h => h) (Or.inl ⟨by rfl, ?_⟩) hHeld ?_
                  · intro u hu
                    go_simp
                  try simp only [Act.put, List.setIfInBounds_toArray, List.set_cons_zero, List.set_cons_succ]
                  refine wpAnyH_take (i := 40) (oi := { dst := some 136, op := Op.pick (Operand.tmp 117) (Operand.tmp 135) (Operand.const (Value.bool false)), type := 4, pos := _, after := #[{ on := 21, ground := Ground.data }, { on := 39, ground := Ground.data }], guard := none }) (v := .bool true) rfl (by kernel_rfl) (by kernel_rfl) (by kernel_rfl) (fun _ _ _ h => h) (Or.inl ⟨by rfl, ?_⟩) hHeld ?_
                  · intro u hu
                    go_simp
                  try simp only [Act.put, List.setIfInBounds_toArray, List.set_cons_zero, List.set_cons_succ]
                  refine wpAnyH_done (by kernel_rfl) ?_ _
                  clear HB
                  go_wp2_with fail
                  go_roundw
                  case rel => exact ⟨false, kk + 1, rfl, by go_num, by omega, bnext hbk hHeld (Nat.le_refl _), (fun ho => by cases ho)⟩
                  case measure => simp [intOf]; omega
                · skip
                  skip
                  go_wp2_with (first
                    | (go_at_call 27; refine HB.mono ?_; rintro e v7 ⟨rfl, rfl⟩))
                  refine wp_region_held_drew (S := fun u => Below wr.heap.size wr u) (by kernel_rfl) (Below.refl _ _).drew (fun hHeld => ?_)
                  refine wpAnyH_take (i := 0) (oi := { dst := some 96, op := Op.move (Operand.tmp 14), type := 4, pos := _, after := #[], guard := none }) (v := .bool true) rfl (by kernel_rfl) (by kernel_rfl) (by kernel_rfl) (fun _ _ _ h => h) (Or.inl ⟨by rfl, ?_⟩) hHeld ?_
                  · intro u hu
                    go_simp
                  try simp only [Act.put, List.setIfInBounds_toArray, List.set_cons_zero, List.set_cons_succ]
                  refine wpAnyH_take (i := 1) (oi := { dst := some 97, op := Op.move (Operand.tmp 96), type := 4, pos := _, after := #[{ on := 0, ground := Ground.data }], guard := none }) (v := .bool true) rfl (by kernel_rfl) (by kernel_rfl) (by kernel_rfl) (fun _ _ _ h => h) (Or.inl ⟨by rfl, ?_⟩) hHeld ?_
                  · intro u hu
                    go_simp
                  try simp only [Act.put, List.setIfInBounds_toArray, List.set_cons_zero, List.set_cons_succ]
                  refine wpAnyH_take (i := 2) (oi := { dst := some 98, op := Op.move (Operand.tmp 2), type := 39, pos := _, after := #[{ on := 1, ground := Ground.guard }], guard := some (1, true) }) (v := .slice (some ⟨bl, 0, none⟩) L.length lc) rfl (by kernel_rfl) (by kernel_rfl) (by kernel_rfl) (fun _ _ _ h => h) (Or.inl ⟨by rfl, ?_⟩) hHeld ?_
                  · intro u hu
                    go_simp
                  try simp only [Act.put, List.setIfInBounds_toArray, List.set_cons_zero, List.set_cons_succ]
                  refine wpAnyH_take (i := 3) (oi := { dst := some 99, op := Op.move (Operand.tmp 13), type := 3, pos := _, after := #[{ on := 1, ground := Ground.guard }], guard := some (1, true) }) (v := .int .i64 (kk : Int)) rfl (by kernel_rfl) (by kernel_rfl) (by kernel_rfl) (fun _ _ _ h => h) (Or.inl ⟨by rfl, ?_⟩) hHeld ?_
                  · intro u hu
                    go_simp
                  try simp only [Act.put, List.setIfInBounds_toArray, List.set_cons_zero, List.set_cons_succ]
                  refine wpAnyH_take (i := 4) (oi := { dst := some 100, op := Op.indexAddr 39 (Operand.tmp 98) (Operand.tmp 99), type := 0, pos := _, after := #[{ on := 2, ground := Ground.data }, { on := 3, ground := Ground.data }, { on := 1, ground := Ground.guard }], guard := some (1, true) }) (v := .pointer (some ⟨bl, kk * 9, none⟩)) rfl (by kernel_rfl) (by kernel_rfl) (by kernel_rfl) (fun _ _ _ h => h) (Or.inl ⟨by rfl, ?_⟩) hHeld ?_
                  · intro u hu
                    go_simp
                  try simp only [Act.put, List.setIfInBounds_toArray, List.set_cons_zero, List.set_cons_succ]
                  refine wpAnyH_take (i := 5) (oi := { dst := some 101, op := Op.fieldAddr 27 (Operand.tmp 100) 2, type := 0, pos := _, after := #[{ on := 4, ground := Ground.data }, { on := 1, ground := Ground.guard }], guard := some (1, true) }) (v := .pointer (some ⟨bl, kk * 9 + 2, none⟩)) rfl (by kernel_rfl) (by kernel_rfl) (by kernel_rfl) (fun _ _ _ h => h) (Or.inl ⟨by rfl, ?_⟩) hHeld ?_
                  · intro u hu
                    go_simp
                  try simp only [Act.put, List.setIfInBounds_toArray, List.set_cons_zero, List.set_cons_succ]
                  refine wpAnyH_take (i := 6) (oi := { dst := some 102, op := Op.load 3 (Operand.tmp 101), type := 3, pos := _, after := #[{ on := 5, ground := Ground.data }, { on := 1, ground := Ground.guard }], guard := some (1, true) }) (v := .int .i64 (x1 : Int)) rfl (by kernel_rfl) (by kernel_rfl) (by kernel_rfl) (fun _ _ _ h => h) (Or.inl ⟨by rfl, ?_⟩) hHeld ?_
                  · intro u hu
                    have x9 := (Stp.of_below hu (fun _ => False)).cell ck2 id; go_simp
                  try simp only [Act.put, List.setIfInBounds_toArray, List.set_cons_zero, List.set_cons_succ]
                  refine wpAnyH_take (i := 7) (oi := { dst := some 103, op := Op.move (Operand.tmp 2), type := 39, pos := _, after := #[{ on := 1, ground := Ground.guard }], guard := some (1, true) }) (v := .slice (some ⟨bl, 0, none⟩) L.length lc) rfl (by kernel_rfl) (by kernel_rfl) (by kernel_rfl) (fun _ _ _ h => h) (Or.inl ⟨by rfl, ?_⟩) hHeld ?_
                  · intro u hu
                    go_simp
                  try simp only [Act.put, List.setIfInBounds_toArray, List.set_cons_zero, List.set_cons_succ]
                  refine wpAnyH_take (i := 8) (oi := { dst := some 104, op := Op.move (Operand.tmp 11), type := 3, pos := _, after := #[{ on := 1, ground := Ground.guard }], guard := some (1, true) }) (v := .int .i64 (i : Int)) rfl (by kernel_rfl) (by kernel_rfl) (by kernel_rfl) (fun _ _ _ h => h) (Or.inl ⟨by rfl, ?_⟩) hHeld ?_
                  · intro u hu
                    go_simp
                  try simp only [Act.put, List.setIfInBounds_toArray, List.set_cons_zero, List.set_cons_succ]
                  refine wpAnyH_take (i := 9) (oi := { dst := some 105, op := Op.indexAddr 39 (Operand.tmp 103) (Operand.tmp 104), type := 0, pos := _, after := #[{ on := 7, ground := Ground.data }, { on := 8, ground := Ground.data }, { on := 1, ground := Ground.guard }], guard := some (1, true) }) (v := .pointer (some ⟨bl, i * 9, none⟩)) rfl (by kernel_rfl) (by kernel_rfl) (by kernel_rfl) (fun _ _ _ h => h) (Or.inl ⟨by rfl, ?_⟩) hHeld ?_
                  · intro u hu
                    go_simp
                  try simp only [Act.put, List.setIfInBounds_toArray, List.set_cons_zero, List.set_cons_succ]
                  refine wpAnyH_take (i := 10) (oi := { dst := some 106, op := Op.fieldAddr 27 (Operand.tmp 105) 2, type := 0, pos := _, after := #[{ on := 9, ground := Ground.data }, { on := 1, ground := Ground.guard }], guard := some (1, true) }) (v := .pointer (some ⟨bl, i * 9 + 2, none⟩)) rfl (by kernel_rfl) (by kernel_rfl) (by kernel_rfl) (fun _ _ _ h => h) (Or.inl ⟨by rfl, ?_⟩) hHeld ?_
                  · intro u hu
                    go_simp
                  try simp only [Act.put, List.setIfInBounds_toArray, List.set_cons_zero, List.set_cons_succ]
                  refine wpAnyH_take (i := 11) (oi := { dst := some 107, op := Op.load 3 (Operand.tmp 106), type := 3, pos := _, after := #[{ on := 10, ground := Ground.data }, { on := 1, ground := Ground.guard }], guard := some (1, true) }) (v := .int .i64 (x2 : Int)) rfl (by kernel_rfl) (by kernel_rfl) (by kernel_rfl) (fun _ _ _ h => h) (Or.inl ⟨by rfl, ?_⟩) hHeld ?_
                  · intro u hu
                    have x9 := (Stp.of_below hu (fun _ => False)).cell ci2 id; go_simp
                  try simp only [Act.put, List.setIfInBounds_toArray, List.set_cons_zero, List.set_cons_succ]
                  refine wpAnyH_take (i := 12) (oi := { dst := some 108, op := Op.move (Operand.tmp 2), type := 39, pos := _, after := #[{ on := 1, ground := Ground.guard }], guard := some (1, true) }) (v := .slice (some ⟨bl, 0, none⟩) L.length lc) rfl (by kernel_rfl) (by kernel_rfl) (by kernel_rfl) (fun _ _ _ h => h) (Or.inl ⟨by rfl, ?_⟩) hHeld ?_
                  · intro u hu
                    go_simp
                  try simp only [Act.put, List.setIfInBounds_toArray, List.set_cons_zero, List.set_cons_succ]
                  refine wpAnyH_take (i := 13) (oi := { dst := some 109, op := Op.move (Operand.tmp 11), type := 3, pos := _, after := #[{ on := 1, ground := Ground.guard }], guard := some (1, true) }) (v := .int .i64 (i : Int)) rfl (by kernel_rfl) (by kernel_rfl) (by kernel_rfl) (fun _ _ _ h => h) (Or.inl ⟨by rfl, ?_⟩) hHeld ?_
                  · intro u hu
                    go_simp
                  try simp only [Act.put, List.setIfInBounds_toArray, List.set_cons_zero, List.set_cons_succ]
                  refine wpAnyH_take (i := 14) (oi := { dst := some 110, op := Op.indexAddr 39 (Operand.tmp 108) (Operand.tmp 109), type := 0, pos := _, after := #[{ on := 12, ground := Ground.data }, { on := 13, ground := Ground.data }, { on := 1, ground := Ground.guard }], guard := some (1, true) }) (v := .pointer (some ⟨bl, i * 9, none⟩)) rfl (by kernel_rfl) (by kernel_rfl) (by kernel_rfl) (fun _ _ _ h => h) (Or.inl ⟨by rfl, ?_⟩) hHeld ?_
                  · intro u hu
                    go_simp
                  try simp only [Act.put, List.setIfInBounds_toArray, List.set_cons_zero, List.set_cons_succ]
                  refine wpAnyH_take (i := 15) (oi := { dst := some 111, op := Op.fieldAddr 27 (Operand.tmp 110) 3, type := 0, pos := _, after := #[{ on := 14, ground := Ground.data }, { on := 1, ground := Ground.guard }], guard := some (1, true) }) (v := .pointer (some ⟨bl, i * 9 + 3, none⟩)) rfl (by kernel_rfl) (by kernel_rfl) (by kernel_rfl) (fun _ _ _ h => h) (Or.inl ⟨by rfl, ?_⟩) hHeld ?_
                  · intro u hu
                    go_simp
                  try simp only [Act.put, List.setIfInBounds_toArray, List.set_cons_zero, List.set_cons_succ]
                  refine wpAnyH_take (i := 16) (oi := { dst := some 112, op := Op.load 24 (Operand.tmp 111), type := 24, pos := _, after := #[{ on := 15, ground := Ground.data }, { on := 1, ground := Ground.guard }], guard := some (1, true) }) (v := .slice T.d.a y2 T.d.c) rfl (by kernel_rfl) (by kernel_rfl) (by kernel_rfl) (fun _ _ _ h => h) (Or.inl ⟨by rfl, ?_⟩) hHeld ?_
                  · intro u hu
                    have x9 := (Stp.of_below hu (fun _ => False)).cell ci3 id; go_simp
                  try simp only [Act.put, List.setIfInBounds_toArray, List.set_cons_zero, List.set_cons_succ]
                  refine wpAnyH_take (i := 17) (oi := { dst := some 113, op := Op.call { callee := Callee.builtin Builtin.len, args := #[Operand.tmp 112], argTypes := #[24] }, type := 3, pos := _, after := #[{ on := 16, ground := Ground.data }, { on := 1, ground := Ground.guard }], guard := some (1, true) }) (v := .int .i64 (y2 : Int)) rfl (by kernel_rfl) (by kernel_rfl) (by kernel_rfl) (fun _ _ _ h => h) (Or.inl ⟨by rfl, ?_⟩) hHeld ?_
                  · intro u hu
                    go_simp
                  try simp only [Act.put, List.setIfInBounds_toArray, List.set_cons_zero, List.set_cons_succ]
                  refine wpAnyH_take (i := 18) (oi := { dst := some 114, op := Op.binOp BinOp.add 3 (Operand.tmp 107) (Operand.tmp 113) 3, type := 3, pos := _, after := #[{ on := 11, ground := Ground.data }, { on := 17, ground := Ground.data }, { on := 1, ground := Ground.guard }], guard := some (1, true) }) (v := .int .i64 ((x2 : Int) + (y2 : Int))) rfl (by kernel_rfl) (by kernel_rfl) (by kernel_rfl) (fun _ _ _ h => h) (Or.inl ⟨by rfl, ?_⟩) hHeld ?_
                  · intro u hu
                    go_simp
                  try simp only [Act.put, List.setIfInBounds_toArray, List.set_cons_zero, List.set_cons_succ]
                  refine wpAnyH_take (i := 19) (oi := { dst := some 115, op := Op.binOp BinOp.lss 3 (Operand.tmp 102) (Operand.tmp 114) 3, type := 4, pos := _, after := #[{ on := 6, ground := Ground.data }, { on := 18, ground := Ground.data }, { on := 1, ground := Ground.guard }], guard := some (1, true) }) (v := .bool true) rfl (by kernel_rfl) (by kernel_rfl) (by kernel_rfl) (fun _ _ _ h => h) (Or.inl ⟨by rfl, ?_⟩) hHeld ?_
                  · intro u hu
                    go_simp
                  try simp only [Act.put, List.setIfInBounds_toArray, List.set_cons_zero, List.set_cons_succ]
                  refine wpAnyH_take (i := 20) (oi := { dst := some 116, op := Op.pick (Operand.tmp 97) (Operand.tmp 115) (Operand.const (Value.bool false)), type := 4, pos := _, after := #[{ on := 1, ground := Ground.data }, { on := 19, ground := Ground.data }], guard := none }) (v := .bool true) rfl (by kernel_rfl) (by kernel_rfl) (by kernel_rfl) (fun _ _ _ h => h) (Or.inl ⟨by rfl, ?_⟩) hHeld ?_
                  · intro u hu
                    go_simp
                  try simp only [Act.put, List.setIfInBounds_toArray, List.set_cons_zero, List.set_cons_succ]
                  refine wpAnyH_take (i := 21) (oi := { dst := some 117, op := Op.move (Operand.tmp 116), type := 4, pos := _, after := #[{ on := 20, ground := Ground.data }, { on := 1, ground := Ground.chain }], guard := none }) (v := .bool true) rfl (by kernel_rfl) (by kernel_rfl) (by kernel_rfl) (fun _ _ _ h => h) (Or.inl ⟨by rfl, ?_⟩) hHeld ?_
                  · intro u hu
                    go_simp
                  try simp only [Act.put, List.setIfInBounds_toArray, List.set_cons_zero, List.set_cons_succ]
                  refine wpAnyH_take (i := 22) (oi := { dst := some 118, op := Op.move (Operand.tmp 2), type := 39, pos := _, after := #[{ on := 21, ground := Ground.guard }], guard := some (21, true) }) (v := .slice (some ⟨bl, 0, none⟩) L.length lc) rfl (by kernel_rfl) (by kernel_rfl) (by kernel_rfl) (fun _ _ _ h => h) (Or.inl ⟨by rfl, ?_⟩) hHeld ?_
                  · intro u hu
                    go_simp
                  try simp only [Act.put, List.setIfInBounds_toArray, List.set_cons_zero, List.set_cons_succ]
                  refine wpAnyH_take (i := 23) (oi := { dst := some 119, op := Op.move (Operand.tmp 11), type := 3, pos := _, after := #[{ on := 21, ground := Ground.guard }], guard := some (21, true) }) (v := .int .i64 (i : Int)) rfl (by kernel_rfl) (by kernel_rfl) (by kernel_rfl) (fun _ _ _ h => h) (Or.inl ⟨by rfl, ?_⟩) hHeld ?_
                  · intro u hu
                    go_simp
                  try simp only [Act.put, List.setIfInBounds_toArray, List.set_cons_zero, List.set_cons_succ]
                  refine wpAnyH_take (i := 24) (oi := { dst := some 120, op := Op.indexAddr 39 (Operand.tmp 118) (Operand.tmp 119), type := 0, pos := _, after := #[{ on := 22, ground := Ground.data }, { on := 23, ground := Ground.data }, { on := 21, ground := Ground.guard }], guard := some (21, true) }) (v := .pointer (some ⟨bl, i * 9, none⟩)) rfl (by kernel_rfl) (by kernel_rfl) (by kernel_rfl) (fun _ _ _ h => h) (Or.inl ⟨by rfl, ?_⟩) hHeld ?_
                  · intro u hu
                    go_simp
                  try simp only [Act.put, List.setIfInBounds_toArray, List.set_cons_zero, List.set_cons_succ]
                  refine wpAnyH_take (i := 25) (oi := { dst := some 121, op := Op.fieldAddr 27 (Operand.tmp 120) 2, type := 0, pos := _, after := #[{ on := 24, ground := Ground.data }, { on := 21, ground := Ground.guard }], guard := some (21, true) }) (v := .pointer (some ⟨bl, i * 9 + 2, none⟩)) rfl (by kernel_rfl) (by kernel_rfl) (by kernel_rfl) (fun _ _ _ h => h) (Or.inl ⟨by rfl, ?_⟩) hHeld ?_
                  · intro u hu
                    go_simp
                  try simp only [Act.put, List.setIfInBounds_toArray, List.set_cons_zero, List.set_cons_succ]
                  refine wpAnyH_take (i := 26) (oi := { dst := some 122, op := Op.load 3 (Operand.tmp 121), type := 3, pos := _, after := #[{ on := 25, ground := Ground.data }, { on := 21, ground := Ground.guard }], guard := some (21, true) }) (v := .int .i64 (x2 : Int)) rfl (by kernel_rfl) (by kernel_rfl) (by kernel_rfl) (fun _ _ _ h => h) (Or.inl ⟨by rfl, ?_⟩) hHeld ?_
                  · intro u hu
                    have x9 := (Stp.of_below hu (fun _ => False)).cell ci2 id; go_simp
                  try simp only [Act.put, List.setIfInBounds_toArray, List.set_cons_zero, List.set_cons_succ]
                  refine wpAnyH_take (i := 27) (oi := { dst := some 123, op := Op.move (Operand.tmp 2), type := 39, pos := _, after := #[{ on := 21, ground := Ground.guard }], guard := some (21, true) }) (v := .slice (some ⟨bl, 0, none⟩) L.length lc) rfl (by kernel_rfl) (by kernel_rfl) (by kernel_rfl) (fun _ _ _ h => h) (Or.inl ⟨by rfl, ?_⟩) hHeld ?_
                  · intro u hu
                    go_simp
                  try simp only [Act.put, List.setIfInBounds_toArray, List.set_cons_zero, List.set_cons_succ]
                  refine wpAnyH_take (i := 28) (oi := { dst := some 124, op := Op.move (Operand.tmp 13), type := 3, pos := _, after := #[{ on := 21, ground := Ground.guard }], guard := some (21, true) }) (v := .int .i64 (kk : Int)) rfl (by kernel_rfl) (by kernel_rfl) (by kernel_rfl) (fun _ _ _ h => h) (Or.inl ⟨by rfl, ?_⟩) hHeld ?_
                  · intro u hu
                    go_simp
                  try simp only [Act.put, List.setIfInBounds_toArray, List.set_cons_zero, List.set_cons_succ]
                  refine wpAnyH_take (i := 29) (oi := { dst := some 125, op := Op.indexAddr 39 (Operand.tmp 123) (Operand.tmp 124), type := 0, pos := _, after := #[{ on := 27, ground := Ground.data }, { on := 28, ground := Ground.data }, { on := 21, ground := Ground.guard }], guard := some (21, true) }) (v := .pointer (some ⟨bl, kk * 9, none⟩)) rfl (by kernel_rfl) (by kernel_rfl) (by kernel_rfl) (fun _ _ _ h => h) (Or.inl ⟨by rfl, ?_⟩) hHeld ?_
                  · intro u hu
                    go_simp
                  try simp only [Act.put, List.setIfInBounds_toArray, List.set_cons_zero, List.set_cons_succ]
                  refine wpAnyH_take (i := 30) (oi := { dst := some 126, op := Op.fieldAddr 27 (Operand.tmp 125) 2, type := 0, pos := _, after := #[{ on := 29, ground := Ground.data }, { on := 21, ground := Ground.guard }], guard := some (21, true) }) (v := .pointer (some ⟨bl, kk * 9 + 2, none⟩)) rfl (by kernel_rfl) (by kernel_rfl) (by kernel_rfl) (fun _ _ _ h => h) (Or.inl ⟨by rfl, ?_⟩) hHeld ?_
                  · intro u hu
                    go_simp
                  try simp only [Act.put, List.setIfInBounds_toArray, List.set_cons_zero, List.set_cons_succ]
                  refine wpAnyH_take (i := 31) (oi := { dst := some 127, op := Op.load 3 (Operand.tmp 126), type := 3, pos := _, after := #[{ on := 30, ground := Ground.data }, { on := 21, ground := Ground.guard }], guard := some (21, true) }) (v := .int .i64 (x1 : Int)) rfl (by kernel_rfl) (by kernel_rfl) (by kernel_rfl) (fun _ _ _ h => h) (Or.inl ⟨by rfl, ?_⟩) hHeld ?_
                  · intro u hu
                    have x9 := (Stp.of_below hu (fun _ => False)).cell ck2 id; go_simp
                  try simp only [Act.put, List.setIfInBounds_toArray, List.set_cons_zero, List.set_cons_succ]
                  refine wpAnyH_take (i := 32) (oi := { dst := some 128, op := Op.move (Operand.tmp 2), type := 39, pos := _, after := #[{ on := 21, ground := Ground.guard }], guard := some (21, true) }) (v := .slice (some ⟨bl, 0, none⟩) L.length lc) rfl (by kernel_rfl) (by kernel_rfl) (by kernel_rfl) (fun _ _ _ h => h) (Or.inl ⟨by rfl, ?_⟩) hHeld ?_
                  · intro u hu
                    go_simp
                  try simp only [Act.put, List.setIfInBounds_toArray, List.set_cons_zero, List.set_cons_succ]
                  refine wpAnyH_take (i := 33) (oi := { dst := some 129, op := Op.move (Operand.tmp 13), type := 3, pos := _, after := #[{ on := 21, ground := Ground.guard }], guard := some (21, true) }) (v := .int .i64 (kk : Int)) rfl (by kernel_rfl) (by kernel_rfl) (by kernel_rfl) (fun _ _ _ h => h) (Or.inl ⟨by rfl, ?_⟩) hHeld ?_
                  · intro u hu
                    go_simp
                  try simp only [Act.put, List.setIfInBounds_toArray, List.set_cons_zero, List.set_cons_succ]
                  refine wpAnyH_take (i := 34) (oi := { dst := some 130, op := Op.indexAddr 39 (Operand.tmp 128) (Operand.tmp 129), type := 0, pos := _, after := #[{ on := 32, ground := Ground.data }, { on := 33, ground := Ground.data }, { on := 21, ground := Ground.guard }], guard := some (21, true) }) (v := .pointer (some ⟨bl, kk * 9, none⟩)) rfl (by kernel_rfl) (by kernel_rfl) (by kernel_rfl) (fun _ _ _ h => h) (Or.inl ⟨by rfl, ?_⟩) hHeld ?_
                  · intro u hu
                    go_simp
                  try simp only [Act.put, List.setIfInBounds_toArray, List.set_cons_zero, List.set_cons_succ]
                  refine wpAnyH_take (i := 35) (oi := { dst := some 131, op := Op.fieldAddr 27 (Operand.tmp 130) 3, type := 0, pos := _, after := #[{ on := 34, ground := Ground.data }, { on := 21, ground := Ground.guard }], guard := some (21, true) }) (v := .pointer (some ⟨bl, kk * 9 + 3, none⟩)) rfl (by kernel_rfl) (by kernel_rfl) (by kernel_rfl) (fun _ _ _ h => h) (Or.inl ⟨by rfl, ?_⟩) hHeld ?_
                  · intro u hu
                    go_simp
                  try simp only [Act.put, List.setIfInBounds_toArray, List.set_cons_zero, List.set_cons_succ]
                  refine wpAnyH_take (i := 36) (oi := { dst := some 132, op := Op.load 24 (Operand.tmp 131), type := 24, pos := _, after := #[{ on := 35, ground := Ground.data }, { on := 21, ground := Ground.guard }], guard := some (21, true) }) (v := .slice A.d.a y1 A.d.c) rfl (by kernel_rfl) (by kernel_rfl) (by kernel_rfl) (fun _ _ _ h => h) (Or.inl ⟨by rfl, ?_⟩) hHeld ?_
                  · intro u hu
                    have x9 := (Stp.of_below hu (fun _ => False)).cell ck3 id; go_simp
                  try simp only [Act.put, List.setIfInBounds_toArray, List.set_cons_zero, List.set_cons_succ]
                  refine wpAnyH_take (i := 37) (oi := { dst := some 133, op := Op.call { callee := Callee.builtin Builtin.len, args := #[Operand.tmp 132], argTypes := #[24] }, type := 3, pos := _, after := #[{ on := 36, ground := Ground.data }, { on := 21, ground := Ground.guard }], guard := some (21, true) }) (v := .int .i64 (y1 : Int)) rfl (by kernel_rfl) (by kernel_rfl) (by kernel_rfl) (fun _ _ _ h => h) (Or.inl ⟨by rfl, ?_⟩) hHeld ?_
                  · intro u hu
                    go_simp
                  try simp only [Act.put, List.setIfInBounds_toArray, List.set_cons_zero, List.set_cons_succ]
                  refine wpAnyH_take (i := 38) (oi := { dst := some 134, op := Op.binOp BinOp.add 3 (Operand.tmp 127) (Operand.tmp 133) 3, type := 3, pos := _, after := #[{ on := 31, ground := Ground.data }, { on := 37, ground := Ground.data }, { on := 21, ground := Ground.guard }], guard := some (21, true) }) (v := .int .i64 ((x1 : Int) + (y1 : Int))) rfl (by kernel_rfl) (by kernel_rfl) (by kernel_rfl) (fun _ _ _ h => h) (Or.inl ⟨by rfl, ?_⟩) hHeld ?_
                  · intro u hu
                    go_simp
                  try simp only [Act.put, List.setIfInBounds_toArray, List.set_cons_zero, List.set_cons_succ]
                  refine wpAnyH_take (i := 39) (oi := { dst := some 135, op := Op.binOp BinOp.lss 3 (Operand.tmp 122) (Operand.tmp 134) 3, type := 4, pos := _, after := #[{ on := 26, ground := Ground.data }, { on := 38, ground := Ground.data }, { on := 21, ground := Ground.guard }], guard := some (21, true) }) (v := .bool false) rfl (by kernel_rfl) (by kernel_rfl) (by kernel_rfl) (fun _ _ _ h => h) (Or.inl ⟨by rfl, ?_⟩) hHeld ?_
                  · intro u hu
                    go_simp
                  try simp only [Act.put, List.setIfInBounds_toArray, List.set_cons_zero, List.set_cons_succ]
                  refine wpAnyH_take (i := 40) (oi := { dst := some 136, op := Op.pick (Operand.tmp 117) (Operand.tmp 135) (Operand.const (Value.bool false)), type := 4, pos := _, after := #[{ on := 21, ground := Ground.data }, { on := 39, ground := Ground.data }], guard := none }) (v := .bool false) rfl (by kernel_rfl) (by kernel_rfl) (by kernel_rfl) (fun _ _ _ h => h) (Or.inl ⟨by rfl, ?_⟩) hHeld ?_
                  · intro u hu
                    go_simp
                  try simp only [Act.put, List.setIfInBounds_toArray, List.set_cons_zero, List.set_cons_succ]
                  refine wpAnyH_done (by kernel_rfl) ?_ _
                  clear HB
                  go_wp2_with fail
                  go_roundw
                  case rel => exact ⟨okb, kk + 1, rfl, by go_num, by omega, bnext hbk hHeld (Nat.le_refl _), (fun ho a C ha hC hh => by rcases Nat.lt_or_ge a kk with h9 | h9; exact hok ho a C h9 hC hh; obtain rfl : a = kk := (by omega); rw [hA] at hC; injection hC with hC; subst hC; (rw [hov.out]; omega))⟩
                  case measure => simp [intOf]; omega
              · skip
                skip
                go_wp2_with (first
                  | (go_at_call 27; refine HB.mono ?_; rintro e v7 ⟨rfl, rfl⟩))
                refine wp_region_held_drew (S := fun u => Below wr.heap.size wr u) (by kernel_rfl) (Below.refl _ _).drew (fun hHeld => ?_)
                refine wpAnyH_take (i := 0) (oi := { dst := some 96, op := Op.move (Operand.tmp 14), type := 4, pos := _, after := #[], guard := none }) (v := .bool true) rfl (by kernel_rfl) (by kernel_rfl) (by kernel_rfl) (fun _ _ _ h => h) (Or.inl ⟨by rfl, ?_⟩) hHeld ?_
                · intro u hu
                  go_simp
                try simp only [Act.put, List.setIfInBounds_toArray, List.set_cons_zero, List.set_cons_succ]
                refine wpAnyH_take (i := 1) (oi := { dst := some 97, op := Op.move (Operand.tmp 96), type := 4, pos := _, after := #[{ on := 0, ground := Ground.data }], guard := none }) (v := .bool true) rfl (by kernel_rfl) (by kernel_rfl) (by kernel_rfl) (fun _ _ _ h => h) (Or.inl ⟨by rfl, ?_⟩) hHeld ?_
                · intro u hu
                  go_simp
                try simp only [Act.put, List.setIfInBounds_toArray, List.set_cons_zero, List.set_cons_succ]
                refine wpAnyH_take (i := 2) (oi := { dst := some 98, op := Op.move (Operand.tmp 2), type := 39, pos := _, after := #[{ on := 1, ground := Ground.guard }], guard := some (1, true) }) (v := .slice (some ⟨bl, 0, none⟩) L.length lc) rfl (by kernel_rfl) (by kernel_rfl) (by kernel_rfl) (fun _ _ _ h => h) (Or.inl ⟨by rfl, ?_⟩) hHeld ?_
                · intro u hu
                  go_simp
                try simp only [Act.put, List.setIfInBounds_toArray, List.set_cons_zero, List.set_cons_succ]
                refine wpAnyH_take (i := 3) (oi := { dst := some 99, op := Op.move (Operand.tmp 13), type := 3, pos := _, after := #[{ on := 1, ground := Ground.guard }], guard := some (1, true) }) (v := .int .i64 (kk : Int)) rfl (by kernel_rfl) (by kernel_rfl) (by kernel_rfl) (fun _ _ _ h => h) (Or.inl ⟨by rfl, ?_⟩) hHeld ?_
                · intro u hu
                  go_simp
                try simp only [Act.put, List.setIfInBounds_toArray, List.set_cons_zero, List.set_cons_succ]
                refine wpAnyH_take (i := 4) (oi := { dst := some 100, op := Op.indexAddr 39 (Operand.tmp 98) (Operand.tmp 99), type := 0, pos := _, after := #[{ on := 2, ground := Ground.data }, { on := 3, ground := Ground.data }, { on := 1, ground := Ground.guard }], guard := some (1, true) }) (v := .pointer (some ⟨bl, kk * 9, none⟩)) rfl (by kernel_rfl) (by kernel_rfl) (by kernel_rfl) (fun _ _ _ h => h) (Or.inl ⟨by rfl, ?_⟩) hHeld ?_
                · intro u hu
                  go_simp
                try simp only [Act.put, List.setIfInBounds_toArray, List.set_cons_zero, List.set_cons_succ]
                refine wpAnyH_take (i := 5) (oi := { dst := some 101, op := Op.fieldAddr 27 (Operand.tmp 100) 2, type := 0, pos := _, after := #[{ on := 4, ground := Ground.data }, { on := 1, ground := Ground.guard }], guard := some (1, true) }) (v := .pointer (some ⟨bl, kk * 9 + 2, none⟩)) rfl (by kernel_rfl) (by kernel_rfl) (by kernel_rfl) (fun _ _ _ h => h) (Or.inl ⟨by rfl, ?_⟩) hHeld ?_
                · intro u hu
                  go_simp
                try simp only [Act.put, List.setIfInBounds_toArray, List.set_cons_zero, List.set_cons_succ]
                refine wpAnyH_take (i := 6) (oi := { dst := some 102, op := Op.load 3 (Operand.tmp 101), type := 3, pos := _, after := #[{ on := 5, ground := Ground.data }, { on := 1, ground := Ground.guard }], guard := some (1, true) }) (v := .int .i64 (x1 : Int)) rfl (by kernel_rfl) (by kernel_rfl) (by kernel_rfl) (fun _ _ _ h => h) (Or.inl ⟨by rfl, ?_⟩) hHeld ?_
                · intro u hu
                  have x9 := (Stp.of_below hu (fun _ => False)).cell ck2 id; go_simp
                try simp only [Act.put, List.setIfInBounds_toArray, List.set_cons_zero, List.set_cons_succ]
                refine wpAnyH_take (i := 7) (oi := { dst := some 103, op := Op.move (Operand.tmp 2), type := 39, pos := _, after := #[{ on := 1, ground := Ground.guard }], guard := some (1, true) }) (v := .slice (some ⟨bl, 0, none⟩) L.length lc) rfl (by kernel_rfl) (by kernel_rfl) (by kernel_rfl) (fun _ _ _ h => h) (Or.inl ⟨by rfl, ?_⟩) hHeld ?_
                · intro u hu
                  go_simp
                try simp only [Act.put, List.setIfInBounds_toArray, List.set_cons_zero, List.set_cons_succ]
                refine wpAnyH_take (i := 8) (oi := { dst := some 104, op := Op.move (Operand.tmp 11), type := 3, pos := _, after := #[{ on := 1, ground := Ground.guard }], guard := some (1, true) }) (v := .int .i64 (i : Int)) rfl (by kernel_rfl) (by kernel_rfl) (by kernel_rfl) (fun _ _ _ h => h) (Or.inl ⟨by rfl, ?_⟩) hHeld ?_
                · intro u hu
                  go_simp
                try simp only [Act.put, List.setIfInBounds_toArray, List.set_cons_zero, List.set_cons_succ]
                refine wpAnyH_take (i := 9) (oi := { dst := some 105, op := Op.indexAddr 39 (Operand.tmp 103) (Operand.tmp 104), type := 0, pos := _, after := #[{ on := 7, ground := Ground.data }, { on := 8, ground := Ground.data }, { on := 1, ground := Ground.guard }], guard := some (1, true) }) (v := .pointer (some ⟨bl, i * 9, none⟩)) rfl (by kernel_rfl) (by kernel_rfl) (by kernel_rfl) (fun _ _ _ h => h) (Or.inl ⟨by rfl, ?_⟩) hHeld ?_
                · intro u hu
                  go_simp
                try simp only [Act.put, List.setIfInBounds_toArray, List.set_cons_zero, List.set_cons_succ]
                refine wpAnyH_take (i := 10) (oi := { dst := some 106, op := Op.fieldAddr 27 (Operand.tmp 105) 2, type := 0, pos := _, after := #[{ on := 9, ground := Ground.data }, { on := 1, ground := Ground.guard }], guard := some (1, true) }) (v := .pointer (some ⟨bl, i * 9 + 2, none⟩)) rfl (by kernel_rfl) (by kernel_rfl) (by kernel_rfl) (fun _ _ _ h => h) (Or.inl ⟨by rfl, ?_⟩) hHeld ?_
                · intro u hu
                  go_simp
                try simp only [Act.put, List.setIfInBounds_toArray, List.set_cons_zero, List.set_cons_succ]
                refine wpAnyH_take (i := 11) (oi := { dst := some 107, op := Op.load 3 (Operand.tmp 106), type := 3, pos := _, after := #[{ on := 10, ground := Ground.data }, { on := 1, ground := Ground.guard }], guard := some (1, true) }) (v := .int .i64 (x2 : Int)) rfl (by kernel_rfl) (by kernel_rfl) (by kernel_rfl) (fun _ _ _ h => h) (Or.inl ⟨by rfl, ?_⟩) hHeld ?_
                · intro u hu
                  have x9 := (Stp.of_below hu (fun _ => False)).cell ci2 id; go_simp
                try simp only [Act.put, List.setIfInBounds_toArray, List.set_cons_zero, List.set_cons_succ]
                refine wpAnyH_take (i := 12) (oi := { dst := some 108, op := Op.move (Operand.tmp 2), type := 39, pos := _, after := #[{ on := 1, ground := Ground.guard }], guard := some (1, true) }) (v := .slice (some ⟨bl, 0, none⟩) L.length lc) rfl (by kernel_rfl) (by kernel_rfl) (by kernel_rfl) (fun _ _ _ h => h) (Or.inl ⟨by rfl, ?_⟩) hHeld ?_
                · intro u hu
                  go_simp
                try simp only [Act.put, List.setIfInBounds_toArray, List.set_cons_zero, List.set_cons_succ]
                refine wpAnyH_take (i := 13) (oi := { dst := some 109, op := Op.move (Operand.tmp 11), type := 3, pos := _, after := #[{ on := 1, ground := Ground.guard }], guard := some (1, true) }) (v := .int .i64 (i : Int)) rfl (by kernel_rfl) (by kernel_rfl) (by kernel_rfl) (fun _ _ _ h => h) (Or.inl ⟨by rfl, ?_⟩) hHeld ?_
                · intro u hu
                  go_simp
                try simp only [Act.put, List.setIfInBounds_toArray, List.set_cons_zero, List.set_cons_succ]
                refine wpAnyH_take (i := 14) (oi := { dst := some 110, op := Op.indexAddr 39 (Operand.tmp 108) (Operand.tmp 109), type := 0, pos := _, after := #[{ on := 12, ground := Ground.data }, { on := 13, ground := Ground.data }, { on := 1, ground := Ground.guard }], guard := some (1, true) }) (v := .pointer (some ⟨bl, i * 9, none⟩)) rfl (by kernel_rfl) (by kernel_rfl) (by kernel_rfl) (fun _ _ _ h => h) (Or.inl ⟨by rfl, ?_⟩) hHeld ?_
                · intro u hu
                  go_simp
                try simp only [Act.put, List.setIfInBounds_toArray, List.set_cons_zero, List.set_cons_succ]
                refine wpAnyH_take (i := 15) (oi := { dst := some 111, op := Op.fieldAddr 27 (Operand.tmp 110) 3, type := 0, pos := _, after := #[{ on := 14, ground := Ground.data }, { on := 1, ground := Ground.guard }], guard := some (1, true) }) (v := .pointer (some ⟨bl, i * 9 + 3, none⟩)) rfl (by kernel_rfl) (by kernel_rfl) (by kernel_rfl) (fun _ _ _ h => h) (Or.inl ⟨by rfl, ?_⟩) hHeld ?_
                · intro u hu
                  go_simp
                try simp only [Act.put, List.setIfInBounds_toArray, List.set_cons_zero, List.set_cons_succ]
                refine wpAnyH_take (i := 16) (oi := { dst := some 112, op := Op.load 24 (Operand.tmp 111), type := 24, pos := _, after := #[{ on := 15, ground := Ground.data }, { on := 1, ground := Ground.guard }], guard := some (1, true) }) (v := .slice T.d.a y2 T.d.c) rfl (by kernel_rfl) (by kernel_rfl) (by kernel_rfl) (fun _ _ _ h => h) (Or.inl ⟨by rfl, ?_⟩) hHeld ?_
                · intro u hu
                  have x9 := (Stp.of_below hu (fun _ => False)).cell ci3 id; go_simp
                try simp only [Act.put, List.setIfInBounds_toArray, List.set_cons_zero, List.set_cons_succ]
                refine wpAnyH_take (i := 17) (oi := { dst := some 113, op := Op.call { callee := Callee.builtin Builtin.len, args := #[Operand.tmp 112], argTypes := #[24] }, type := 3, pos := _, after := #[{ on := 16, ground := Ground.data }, { on := 1, ground := Ground.guard }], guard := some (1, true) }) (v := .int .i64 (y2 : Int)) rfl (by kernel_rfl) (by kernel_rfl) (by kernel_rfl) (fun _ _ _ h => h) (Or.inl ⟨by rfl, ?_⟩) hHeld ?_
                · intro u hu
                  go_simp
                try simp only [Act.put, List.setIfInBounds_toArray, List.set_cons_zero, List.set_cons_succ]
                refine wpAnyH_take (i := 18) (oi := { dst := some 114, op := Op.binOp BinOp.add 3 (Operand.tmp 107) (Operand.tmp 113) 3, type := 3, pos := _, after := #[{ on := 11, ground := Ground.data }, { on := 17, ground := Ground.data }, { on := 1, ground := Ground.guard }], guard := some (1, true) }) (v := .int .i64 ((x2 : Int) + (y2 : Int))) rfl (by kernel_rfl) (by kernel_rfl) (by kernel_rfl) (fun _ _ _ h => h) (Or.inl ⟨by rfl, ?_⟩) hHeld ?_
                · intro u hu
                  go_simp
                try simp only [Act.put, List.setIfInBounds_toArray, List.set_cons_zero, List.set_cons_succ]
                refine wpAnyH_take (i := 19) (oi := { dst := some 115, op := Op.binOp BinOp.lss 3 (Operand.tmp 102) (Operand.tmp 114) 3, type := 4, pos := _, after := #[{ on := 6, ground := Ground.data }, { on := 18, ground := Ground.data }, { on := 1, ground := Ground.guard }], guard := some (1, true) }) (v := .bool false) rfl (by kernel_rfl) (by kernel_rfl) (by kernel_rfl) (fun _ _ _ h => h) (Or.inl ⟨by rfl, ?_⟩) hHeld ?_
                · intro u hu
                  go_simp
                try simp only [Act.put, List.setIfInBounds_toArray, List.set_cons_zero, List.set_cons_succ]
                refine wpAnyH_take (i := 20) (oi := { dst := some 116, op := Op.pick (Operand.tmp 97) (Operand.tmp 115) (Operand.const (Value.bool false)), type := 4, pos := _, after := #[{ on := 1, ground := Ground.data }, { on := 19, ground := Ground.data }], guard := none }) (v := .bool false) rfl (by kernel_rfl) (by kernel_rfl) (by kernel_rfl) (fun _ _ _ h => h) (Or.inl ⟨by rfl, ?_⟩) hHeld ?_
                · intro u hu
                  go_simp
                try simp only [Act.put, List.setIfInBounds_toArray, List.set_cons_zero, List.set_cons_succ]
                refine wpAnyH_take (i := 21) (oi := { dst := some 117, op := Op.move (Operand.tmp 116), type := 4, pos := _, after := #[{ on := 20, ground := Ground.data }, { on := 1, ground := Ground.chain }], guard := none }) (v := .bool false) rfl (by kernel_rfl) (by kernel_rfl) (by kernel_rfl) (fun _ _ _ h => h) (Or.inl ⟨by rfl, ?_⟩) hHeld ?_
                · intro u hu
                  go_simp
                try simp only [Act.put, List.setIfInBounds_toArray, List.set_cons_zero, List.set_cons_succ]
                refine wpAnyH_take (i := 22) (oi := { dst := some 118, op := Op.move (Operand.tmp 2), type := 39, pos := _, after := #[{ on := 21, ground := Ground.guard }], guard := some (21, true) }) (v := undef) rfl (by kernel_rfl) (by kernel_rfl) (by kernel_rfl) (fun _ _ _ h => h)
                  (Or.inr ⟨by rfl, rfl⟩) hHeld ?_
                try simp only [Act.put, List.setIfInBounds_toArray, List.set_cons_zero, List.set_cons_succ]
                refine wpAnyH_take (i := 23) (oi := { dst := some 119, op := Op.move (Operand.tmp 11), type := 3, pos := _, after := #[{ on := 21, ground := Ground.guard }], guard := some (21, true) }) (v := undef) rfl (by kernel_rfl) (by kernel_rfl) (by kernel_rfl) (fun _ _ _ h => h)
                  (Or.inr ⟨by rfl, rfl⟩) hHeld ?_
                try simp only [Act.put, List.setIfInBounds_toArray, List.set_cons_zero, List.set_cons_succ]
                refine wpAnyH_take (i := 24) (oi := { dst := some 120, op := Op.indexAddr 39 (Operand.tmp 118) (Operand.tmp 119), type := 0, pos := _, after := #[{ on := 22, ground := Ground.data }, { on := 23, ground := Ground.data }, { on := 21, ground := Ground.guard }], guard := some (21, true) }) (v := undef) rfl (by kernel_rfl) (by kernel_rfl) (by kernel_rfl) (fun _ _ _ h => h)
                  (Or.inr ⟨by rfl, rfl⟩) hHeld ?_
                try simp only [Act.put, List.setIfInBounds_toArray, List.set_cons_zero, List.set_cons_succ]
                refine wpAnyH_take (i := 25) (oi := { dst := some 121, op := Op.fieldAddr 27 (Operand.tmp 120) 2, type := 0, pos := _, after := #[{ on := 24, ground := Ground.data }, { on := 21, ground := Ground.guard }], guard := some (21, true) }) (v := undef) rfl (by kernel_rfl) (by kernel_rfl) (by kernel_rfl) (fun _ _ _ h => h)
                  (Or.inr ⟨by rfl, rfl⟩) hHeld ?_
                try simp only [Act.put, List.setIfInBounds_toArray, List.set_cons_zero, List.set_cons_succ]
                refine wpAnyH_take (i := 26) (oi := { dst := some 122, op := Op.load 3 (Operand.tmp 121), type := 3, pos := _, after := #[{ on := 25, ground := Ground.data }, { on := 21, ground := Ground.guard }], guard := some (21, true) }) (v := undef) rfl (by kernel_rfl) (by kernel_rfl) (by kernel_rfl) (fun _ _ _ h => h)
                  (Or.inr ⟨by rfl, rfl⟩) hHeld ?_
                try simp only [Act.put, List.setIfInBounds_toArray, List.set_cons_zero, List.set_cons_succ]
                refine wpAnyH_take (i := 27) (oi := { dst := some 123, op := Op.move (Operand.tmp 2), type := 39, pos := _, after := #[{ on := 21, ground := Ground.guard }], guard := some (21, true) }) (v := undef) rfl (by kernel_rfl) (by kernel_rfl) (by kernel_rfl) (fun _ _ _ h => h)
                  (Or.inr ⟨by rfl, rfl⟩) hHeld ?_
                try simp only [Act.put, List.setIfInBounds_toArray, List.set_cons_zero, List.set_cons_succ]
                refine wpAnyH_take (i := 28) (oi := { dst := some 124, op := Op.move (Operand.tmp 13), type := 3, pos := _, after := #[{ on := 21, ground := Ground.guard }], guard := some (21, true) }) (v := undef) rfl (by kernel_rfl) (by kernel_rfl) (by kernel_rfl) (fun _ _ _ h => h)
                  (Or.inr ⟨by rfl, rfl⟩) hHeld ?_
                try simp only [Act.put, List.setIfInBounds_toArray, List.set_cons_zero, List.set_cons_succ]
                refine wpAnyH_take (i := 29) (oi := { dst := some 125, op := Op.indexAddr 39 (Operand.tmp 123) (Operand.tmp 124), type := 0, pos := _, after := #[{ on := 27, ground := Ground.data }, { on := 28, ground := Ground.data }, { on := 21, ground := Ground.guard }], guard := some (21, true) }) (v := undef) rfl (by kernel_rfl) (by kernel_rfl) (by kernel_rfl) (fun _ _ _ h => h)
                  (Or.inr ⟨by rfl, rfl⟩) hHeld ?_
                try simp only [Act.put, List.setIfInBounds_toArray, List.set_cons_zero, List.set_cons_succ]
                refine wpAnyH_take (i := 30) (oi := { dst := some 126, op := Op.fieldAddr 27 (Operand.tmp 125) 2, type := 0, pos := _, after := #[{ on := 29, ground := Ground.data }, { on := 21, ground := Ground.guard }], guard := some (21, true) }) (v := undef) rfl (by kernel_rfl) (by kernel_rfl) (by kernel_rfl) (fun _ _ _ h => h)
                  (Or.inr ⟨by rfl, rfl⟩) hHeld ?_
                try simp only [Act.put, List.setIfInBounds_toArray, List.set_cons_zero, List.set_cons_succ]
                refine wpAnyH_take (i := 31) (oi := { dst := some 127, op := Op.load 3 (Operand.tmp 126), type := 3, pos := _, after := #[{ on := 30, ground := Ground.data }, { on := 21, ground := Ground.guard }], guard := some (21, true) }) (v := undef) rfl (by kernel_rfl) (by kernel_rfl) (by kernel_rfl) (fun _ _ _ h => h)
                  (Or.inr ⟨by rfl, rfl⟩) hHeld ?_
                try simp only [Act.put, List.setIfInBounds_toArray, List.set_cons_zero, List.set_cons_succ]
                refine wpAnyH_take (i := 32) (oi := { dst := some 128, op := Op.move (Operand.tmp 2), type := 39, pos := _, after := #[{ on := 21, ground := Ground.guard }], guard := some (21, true) }) (v := undef) rfl (by kernel_rfl) (by kernel_rfl) (by kernel_rfl) (fun _ _ _ h => h)
                  (Or.inr ⟨by rfl, rfl⟩) hHeld ?_
                try simp only [Act.put, List.setIfInBounds_toArray, List.set_cons_zero, List.set_cons_succ]
                refine wpAnyH_take (i := 33) (oi := { dst := some 129, op := Op.move (Operand.tmp 13), type := 3, pos := _, after := #[{ on := 21, ground := Ground.guard }], guard := some (21, true) }) (v := undef) rfl (by kernel_rfl) (by kernel_rfl) (by kernel_rfl) (fun _ _ _ h => h)
                  (Or.inr ⟨by rfl, rfl⟩) hHeld ?_
                try simp only [Act.put, List.setIfInBounds_toArray, List.set_cons_zero, List.set_cons_succ]
                refine wpAnyH_take (i := 34) (oi := { dst := some 130, op := Op.indexAddr 39 (Operand.tmp 128) (Operand.tmp 129), type := 0, pos := _, after := #[{ on := 32, ground := Ground.data }, { on := 33, ground := Ground.data }, { on := 21, ground := Ground.guard }], guard := some (21, true) }) (v := undef) rfl (by kernel_rfl) (by kernel_rfl) (by kernel_rfl) (fun _ _ _ h => h)
                  (Or.inr ⟨by rfl, rfl⟩) hHeld ?_
                try simp only [Act.put, List.setIfInBounds_toArray, List.set_cons_zero, List.set_cons_succ]
                refine wpAnyH_take (i := 35) (oi := { dst := some 131, op := Op.fieldAddr 27 (Operand.tmp 130) 3, type := 0, pos := _, after := #[{ on := 34, ground := Ground.data }, { on := 21, ground := Ground.guard }], guard := some (21, true) }) (v := undef) rfl (by kernel_rfl) (by kernel_rfl) (by kernel_rfl) (fun _ _ _ h => h)
                  (Or.inr ⟨by rfl, rfl⟩) hHeld ?_
                try simp only [Act.put, List.setIfInBounds_toArray, List.set_cons_zero, List.set_cons_succ]
                refine wpAnyH_take (i := 36) (oi := { dst := some 132, op := Op.load 24 (Operand.tmp 131), type := 24, pos := _, after := #[{ on := 35, ground := Ground.data }, { on := 21, ground := Ground.guard }], guard := some (21, true) }) (v := undef) rfl (by kernel_rfl) (by kernel_rfl) (by kernel_rfl) (fun _ _ _ h => h)
                  (Or.inr ⟨by rfl, rfl⟩) hHeld ?_
                try simp only [Act.put, List.setIfInBounds_toArray, List.set_cons_zero, List.set_cons_succ]
                refine wpAnyH_take (i := 37) (oi := { dst := some 133, op := Op.call { callee := Callee.builtin Builtin.len, args := #[Operand.tmp 132], argTypes := #[24] }, type := 3, pos := _, after := #[{ on := 36, ground := Ground.data }, { on := 21, ground := Ground.guard }], guard := some (21, true) }) (v := undef) rfl (by kernel_rfl) (by kernel_rfl) (by kernel_rfl) (fun _ _ _ h => h)
                  (Or.inr ⟨by rfl, rfl⟩) hHeld ?_
                try simp only [Act.put, List.setIfInBounds_toArray, List.set_cons_zero, List.set_cons_succ]
                refine wpAnyH_take (i := 38) (oi := { dst := some 134, op := Op.binOp BinOp.add 3 (Operand.tmp 127) (Operand.tmp 133) 3, type := 3, pos := _, after := #[{ on := 31, ground := Ground.data }, { on := 37, ground := Ground.data }, { on := 21, ground := Ground.guard }], guard := some (21, true) }) (v := undef) rfl (by kernel_rfl) (by kernel_rfl) (by kernel_rfl) (fun _ _ _ h => h)
                  (Or.inr ⟨by rfl, rfl⟩) hHeld ?_
                try simp only [Act.put, List.setIfInBounds_toArray, List.set_cons_zero, List.set_cons_succ]
                refine wpAnyH_take (i := 39) (oi := { dst := some 135, op := Op.binOp BinOp.lss 3 (Operand.tmp 122) (Operand.tmp 134) 3, type := 4, pos := _, after := #[{ on := 26, ground := Ground.data }, { on := 38, ground := Ground.data }, { on := 21, ground := Ground.guard }], guard := some (21, true) }) (v := undef) rfl (by kernel_rfl) (by kernel_rfl) (by kernel_rfl) (fun _ _ _ h => h)
                  (Or.inr ⟨by rfl, rfl⟩) hHeld ?_
                try simp only [Act.put, List.setIfInBounds_toArray, List.set_cons_zero, List.set_cons_succ]
                refine wpAnyH_take (i := 40) (oi := { dst := some 136, op := Op.pick (Operand.tmp 117) (Operand.tmp 135) (Operand.const (Value.bool false)), type := 4, pos := _, after := #[{ on := 21, ground := Ground.data }, { on := 39, ground := Ground.data }], guard := none }) (v := .bool false) rfl (by kernel_rfl) (by kernel_rfl) (by kernel_rfl) (fun _ _ _ h => h) (Or.inl ⟨by rfl, ?_⟩) hHeld ?_
                · intro u hu
                  go_simp
                try simp only [Act.put, List.setIfInBounds_toArray, List.set_cons_zero, List.set_cons_succ]
                refine wpAnyH_done (by kernel_rfl) ?_ _
                clear HB
                go_wp2_with fail
                go_roundw
                case rel => exact ⟨okb, kk + 1, rfl, by go_num, by omega, bnext hbk hHeld (Nat.le_refl _), (fun ho a C ha hC hh => by rcases Nat.lt_or_ge a kk with h9 | h9; exact hok ho a C h9 hC hh; obtain rfl : a = kk := (by omega); rw [hA] at hC; injection hC with hC; subst hC; (rw [hov.out]; omega))⟩
                case measure => simp [intOf]; omega
          · have a7 : ¬ (kk : Int) < (i : Int) := by omega
            obtain rfl : kk = i := by omega
            cases okb with
            | false =>
              go_wp2_with fail
              go_roundw
              case rel => exact ⟨kk + 1, idl, by omega, by go_num, by rw [fsL_skip P hT]; exact J6, P.skip⟩
              case measure => simp [intOf]; omega
            | true =>
              have hTm : (mdL (k : Int) L (kk + 1))[kk]? = some (mdT (k : Int) kk T) := mdL_lt hT (by omega)
              have rT := (J6.ow.at' (mdL_len _ _ _) kk _ hTm).1
              have hfl : (fsL (k : Int) L kk idl).length + 1 ≤ 1000000 := by
                have h9 : (fsL (k : Int) L kk idl).length ≤ _ := List.length_filter_le _ _
                rw [List.length_take] at h9
                omega
              have hil : idl.length + 1 ≤ 1000000 := by have := P.n; omega
              have u1 : Hid True := trivial
              have u2 : Hid True := trivial
              have u3 : Hid True := trivial
              go_wp2_with (first
                | (clear u1; refine at_getE _ (by rfl) (by rfl) bl (kk * 9) (by rfl) (mdT (k : Int) kk T) rT ?_)
                | (clear u2; refine at_bsP _ (by rfl) (by rfl) (mdT (k : Int) kk T) (by rfl) ?_
                   have b2 : Below wr.heap.size wr (wr.alloc (.cells (mdT (k : Int) kk T).cs.toArray 27)) := (Below.refl _ wr).alloc (Nat.le_refl _) _
                   have hnew := cell_new9 wr (mdT (k : Int) kk T) 27)
                | (at_builtin; clear u3; refine at_appR elP w1.heap.size rfl _ _ (by rfl) (by rfl) (ro_later J6.ff.ow b2) J6.ff.nw (some ⟨wr.heap.size, 0, none⟩) 1 (mdT (k : Int) kk T).cs (by rfl) (by rfl) (fun e => by cases e) (fun ad e => by injection e with e; subst e; exact hnew) (Pe.cs_one _) hfl (Nat.le_trans J6.ff.b.size b2.size) ?_; intro vf' v7 hA7
                   have J7 := J6.appF b2 hA7
                   clear hA7 hnew b2
                   have u4 : Hid True := trivial
                   have u5 : Hid True := trivial)
                | (clear u4; refine at_bsI _ (by rfl) (by rfl) ((kk : Int) + 1) (by rfl) ?_
                   have b3 : Below v7.heap.size v7 (v7.alloc (.cells #[.int .i64 ((kk : Int) + 1)] 3)) := (Below.refl _ v7).alloc (Nat.le_refl _) _
                   have hnew : ∀ j u, [Value.int .i64 ((kk : Int) + 1)][j]? = some u → (v7.alloc (.cells #[.int .i64 ((kk : Int) + 1)] 3)).cell? ((⟨v7.heap.size, 0, none⟩ : Addr).add j) = some u := fun j u hu => by
                     rw [Addr.add_lit, Nat.zero_add]; exact (Cs.made v7 [.int .i64 ((kk : Int) + 1)] 3 (by simp [Value.oneCell'])).cell j u hu)
                | (at_builtin; clear u5; refine at_appR elI w1.heap.size rfl _ _ (by rfl) (by rfl) (ro_later J7.iw b3) (fun r e => Nat.le_trans J7.w1W (J7.inn r e)) (some ⟨v7.heap.size, 0, none⟩) 1 [.int .i64 ((kk : Int) + 1)] (by rfl) (by rfl) (fun e => by cases e) (fun ad e => by injection e with e; subst e; exact hnew) (by simp [Value.oneCell']) hil (Nat.le_trans J7.ff.b.size b3.size) ?_; intro vi' v8 hA8
                   have J8 := J7.appI b3 hA8
                   clear hA8 hnew b3))
              go_roundw
              case rel => exact ⟨kk + 1, idl ++ [(kk : Int) + 1], by omega, by go_num, by rw [fsL_take hT]; exact J8, P.take hT (hok rfl)⟩
              case measure => simp [intOf]; omega
    · have a9 : ¬ (i : Int) < (L.length : Int) := by omega
      obtain rfl : i = L.length := by omega
      have hidw : ∀ x ∈ idl, wfi x := fun x hx => wfi_of (by have := P.b x hx; omega)
      obtain ⟨⟨sa, sn, sc⟩, e1, P1⟩ := J.psl
      obtain ⟨⟨fa, fn, fc⟩, e2, P2⟩ := J.psf (fun T hT => List.mem_of_mem_take (List.mem_filter.1 hT).1)
      obtain ⟨⟨ia, ni, ic⟩, e3, hI⟩ := J.ids hidw
      rw [fsL_end] at P2
      obtain ⟨n1, n2', n3', hsame⟩ := parts_end h1 h6 P b
      have rb := J.rb
      have B := bnext B1 J.ff.b (Nat.le_refl _)
      have hl20 : (pts (mdL (k : Int) L L.length)).length ≤ 20 := by rw [pts_len', mdL_len]; exact hL20
      have hls : ∀ p ∈ pts (mdL (k : Int) L L.length), p.data.length ≤ 70 ∧ p.needs.length ≤ 6 := fun p hp => by
        obtain ⟨T, hT, rfl⟩ := List.mem_map.1 hp
        obtain ⟨j, U, _, hU, rfl⟩ := mdL_mem (K := (k : Int)) (L := L) (i := L.length) (by rw [List.take_of_length_le (by rw [mdL_len]; omega)]; exact hT)
        have := hLs U (List.mem_of_getElem? hU)
        have e9 : (mdT (k : Int) j U).p.data.length = min 8 U.p.data.length := by show (U.p.data.take 8).length = _; simp
        have e8 : (mdT (k : Int) j U).p.needs = U.p.needs := rfl
        rw [e9, e8]; omega
      simp only at e1 e2 e3
      injection e1 with x1 x2 x3
      subst x1; subst x2; subst x3; subst e2; subst e3
      clear J P hidw hLs hL20 h3'
      generalize pts (mdL (k : Int) L L.length) = l at *
      have hNow := fun (u : World) (h : PsL u ⟨la, L.length, lc⟩ l) => now_L h b
      have hSome := fun (u : World) (h : PsL u ⟨la, L.length, lc⟩ l) (hn : InsS u ⟨ia, ni, ic⟩ idl) => some_L h hn b
      have hWo := fun (u : World) (h : PsL u ⟨la, L.length, lc⟩ l) (hn : InsS u ⟨ia, ni, ic⟩ idl) => without_L h hn hl20 hls
      have hNow2 := fun (u : World) (q : Sv) (h : PsL u q (woP l idl)) => now_L h (nwB b (smP l idl))
      have hNow3 := fun (u : World) (h : PsL u ⟨fa, fn, fc⟩ (smP l idl)) => now_L h b
      have HS := rsame_any (nwB b l) (nwB (nwB b (smP l idl)) (woP l idl))
      rw [hsame] at HS
      have hX := (nwB b l).len
      have hS := (nwB b (smP l idl)).len
      have hU := (nwB (nwB b (smP l idl)) (woP l idl)).len
      have heS := eqB (nwB b (smP l idl)) (nwB b (smP l idl))
      have hgb := guardB
      simp only [decide_true] at heS
      generalize nwE l = E1 at *
      generalize nwE (smP l idl) = E2 at *
      generalize nwE (woP l idl) = E3 at *
      generalize nwB (nwB b (smP l idl)) (woP l idl) = U at *
      generalize nwB b (smP l idl) = S at *
      generalize nwB b l = X at *
      subst n1; subst n2'; subst n3'
      clear hsame hl20 hls
      simp only at hNow hSome hWo hNow3
      have t1 : Hid True := trivial
      have t2 : Hid True := trivial
      have t3 : Hid True := trivial
      go_wp2_with (first
        | (clear t1; refine at_get 23 64 arrB (by rfl) _ (by rfl) g4 (by rfl) _ rb hb ?_)
        | (go_at_call 17; refine (hNow _ P1).mono ?_; rintro e v1 ⟨rfl, c1⟩; clear hNow)
        | (clear t2; refine at_new 23 64 arrB (by rfl) (by rfl) ?_; intro g15 v2 k2 z2 y2 b2)
        | (clear t3; refine at_put 23 64 arrB (by rfl) _ _ (by rfl) g15 (by rfl) X.l (by rfl) hX _ y2 (by simp) ?_; intro v3 rX0 s3
           have S3 : Stp (fun _ => False) wr v3 := (Stp.of_below (bnext c1 b2 (Nat.le_refl _)) (fun _ => False)).next s3 (fun x hx => .inr (by subst hx; have := c1.size; omega))
           have b3 := S3.below (Nat.le_refl _) (fun _ h => h.elim)
           have rb3 := rb.later b3
           have P3 := P1.later b3
           have hI3 := hI.later b3
           have P23 := P2.later b3
           have B3 := bnext B b3 (Nat.le_refl _)
           clear rb P1 hI P2 B b3 S3 s3 y2 b2 c1 k2 z2
           have u1 : Hid True := trivial
           have u2 : Hid True := trivial
           have u3 : Hid True := trivial)
        | (clear u1; refine at_get 23 64 arrB (by rfl) _ (by rfl) g4 (by rfl) _ rb3 hb ?_)
        | (go_at_call 19; refine (hSome _ P3 hI3).mono ?_; rintro e v4 ⟨rfl, c4⟩; clear hSome)
        | (clear u2; refine at_new 23 64 arrB (by rfl) (by rfl) ?_; intro g17 v5 k5 z5 y5 b5)
        | (clear u3; refine at_put 23 64 arrB (by rfl) _ _ (by rfl) g17 (by rfl) S.l (by rfl) hS _ y5 (by simp) ?_; intro V rS s6
           have S6 : Stp (fun _ => False) v3 V := (Stp.of_below (bnext c4 b5 (Nat.le_refl _)) (fun _ => False)).next s6 (fun x hx => .inr (by subst hx; have := c4.size; omega))
           have b6 := S6.below (Nat.le_refl _) (fun _ h => h.elim)
           have rbV := rb3.later b6
           have rX := rX0.later b6
           have PV := P3.later b6
           have hIV := hI3.later b6
           have P2V := P23.later b6
           have BV := bnext B3 b6 (Nat.le_refl _)
           clear rb3 P3 hI3 P23 B3 b6 S6 s6 y5 b5 c4 k5 z5 rX0))
      refine wp_region_held_drew (S := fun u => Below V.heap.size V u) (by kernel_rfl) (Below.refl _ _).drew (fun hHeld => ?_)
      refine wpAnyH_take (i := 0) (oi := { dst := some 164, op := Op.load 23 (Operand.tmp 17), type := 23, pos := _, after := #[], guard := none }) (v := .agg S.cs.toArray) rfl (by kernel_rfl) (by kernel_rfl) (by kernel_rfl) (fun _ _ _ h => h)
        (yields_row 23 64 arrB (by rfl) (.tmp 17) rfl g17 (by rfl) S.l hS (fun u hu => rS.later hu)) hHeld ?_
      try simp only [Act.put, List.setIfInBounds_toArray, List.set_cons_zero, List.set_cons_succ]
      refine wpAnyH_take (i := 1) (oi := { dst := some 165, op := Op.move (Operand.tmp 2), type := 39, pos := _, after := #[], guard := none }) (v := .slice la L.length lc) rfl (by kernel_rfl) (by kernel_rfl) (by kernel_rfl) (fun _ _ _ h => h) (Or.inl ⟨by rfl, ?_⟩) hHeld ?_
      · intro u hu
        go_simp
      try simp only [Act.put, List.setIfInBounds_toArray, List.set_cons_zero, List.set_cons_succ]
      refine wpAnyH_take (i := 2) (oi := { dst := some 166, op := Op.move (Operand.tmp 10), type := 25, pos := _, after := #[], guard := none }) (v := .slice ia ni ic) rfl (by kernel_rfl) (by kernel_rfl) (by kernel_rfl) (fun _ _ _ h => h) (Or.inl ⟨by rfl, ?_⟩) hHeld ?_
      · intro u hu
        go_simp
      try simp only [Act.put, List.setIfInBounds_toArray, List.set_cons_zero, List.set_cons_succ]
      refine wpAnyH_ready (rs := [3, 8]) (by kernel_rfl) (by simp) ?_
      refine (AllReadyH.cons (o := { dst := some 167, op := Op.call { callee := Callee.value (Operand.func 22), args := #[Operand.tmp 165, Operand.tmp 166], argTypes := #[39, 25] }, type := 39, pos := _, after := #[{ on := 1, ground := Ground.data }, { on := 2, ground := Ground.data }], guard := none }) rfl (fun K hK => ?_) (AllReadyH.cons (o := { dst := some 19, op := Op.alloc 23, type := 0, pos := _, after := #[], guard := none }) rfl (fun K hK => ?_) AllReadyH.nil))
      · skip
        go_simp
        refine (hWo _ (PV.later hHeld) (hIV.later hHeld)).mono ?_
        rintro e v3 ⟨⟨xa, xn, xc⟩, rfl, Q3, c3'⟩
        try go_wp2_with fail
        try (have y8 := y8.later c3')
        refine hK.out _ _ (bnext hHeld c3' (Nat.le_refl _)) (fun hHeld => ?_)
        clear hK K
        try simp only [Act.put, List.setIfInBounds_toArray, List.set_cons_zero, List.set_cons_succ]
        refine wpAnyH_ready (rs := [4, 8]) (by kernel_rfl) (by simp) ?_
        refine (AllReadyH.cons (o := { dst := some 168, op := Op.call { callee := Callee.value (Operand.func 17), args := #[Operand.tmp 164, Operand.tmp 167], argTypes := #[23, 39] }, type := 31, pos := _, after := #[{ on := 0, ground := Ground.data }, { on := 3, ground := Ground.data }, { on := 3, ground := Ground.chain }], guard := none }) rfl (fun K hK => ?_) (AllReadyH.cons (o := { dst := some 19, op := Op.alloc 23, type := 0, pos := _, after := #[], guard := none }) rfl (fun K hK => ?_) AllReadyH.nil))
        · skip
          go_simp
          refine (hNow2 _ ⟨xa, xn, xc⟩ Q3).mono ?_
          rintro e v4 ⟨rfl, c4⟩
          try go_wp2_with fail
          try (have y8 := y8.later c4)
          refine hK.out _ _ (bnext hHeld c4 (Nat.le_refl _)) (fun hHeld => ?_)
          clear hK K
          try simp only [Act.put, List.setIfInBounds_toArray, List.set_cons_zero, List.set_cons_succ]
          refine wpAnyH_take (i := 5) (oi := { dst := some 163, op := Op.move (Operand.tmp 168), type := 31, pos := _, after := #[{ on := 4, ground := Ground.data }], guard := none }) (v := .tuple #[.agg U.cs.toArray, .int .i64 0]) rfl (by kernel_rfl) (by kernel_rfl) (by kernel_rfl) (fun _ _ _ h => h) (Or.inl ⟨by rfl, ?_⟩) hHeld ?_
          · intro u hu
            go_simp
          try simp only [Act.put, List.setIfInBounds_toArray, List.set_cons_zero, List.set_cons_succ]
          refine wpAnyH_take (i := 6) (oi := { dst := some 169, op := Op.extract (Operand.tmp 163) 0, type := 23, pos := _, after := #[{ on := 5, ground := Ground.data }], guard := none }) (v := .agg U.cs.toArray) rfl (by kernel_rfl) (by kernel_rfl) (by kernel_rfl) (fun _ _ _ h => h) (Or.inl ⟨by rfl, ?_⟩) hHeld ?_
          · intro u hu
            go_simp
          try simp only [Act.put, List.setIfInBounds_toArray, List.set_cons_zero, List.set_cons_succ]
          refine wpAnyH_take (i := 7) (oi := { dst := some 170, op := Op.extract (Operand.tmp 163) 1, type := 30, pos := _, after := #[{ on := 5, ground := Ground.data }, { on := 9, ground := Ground.gcOnly Departure.lateStores }], guard := none }) (v := .int .i64 0) rfl (by kernel_rfl) (by kernel_rfl) (by kernel_rfl) (fun _ _ _ h => h) (Or.inl ⟨by rfl, ?_⟩) hHeld ?_
          · intro u hu
            go_simp
          try simp only [Act.put, List.setIfInBounds_toArray, List.set_cons_zero, List.set_cons_succ]
          refine wpAnyH_ready (rs := [8]) (by kernel_rfl) (by simp) ?_
          refine (AllReadyH.cons (o := { dst := some 19, op := Op.alloc 23, type := 0, pos := _, after := #[], guard := none }) rfl (fun K hK => ?_) AllReadyH.nil)
          refine step_new 23 64 arrB rfl rfl ?_
          intro g19 v8 a8 z8 y8 b8
          have m8 : V.heap.size ≤ g19 := Nat.le_trans hHeld.size a8
          try (have Q3 := Q3.later b8)
          refine hK.out _ _ (bnext hHeld b8 (Nat.le_refl _)) (fun hHeld => ?_)
          clear hK K
          try simp only [Act.put, List.setIfInBounds_toArray, List.set_cons_zero, List.set_cons_succ]
          refine wpAnyH_ready (rs := [9]) (by kernel_rfl) (by simp) ?_
          refine (AllReadyH.cons (o := { dst := none, op := Op.store 23 (Operand.tmp 19) (Operand.tmp 169), type := 0, pos := _, after := #[{ on := 8, ground := Ground.data }, { on := 6, ground := Ground.data }, { on := 4, ground := Ground.chain }, { on := 0, ground := Ground.phase }, { on := 1, ground := Ground.phase }, { on := 2, ground := Ground.phase }, { on := 3, ground := Ground.phase }, { on := 4, ground := Ground.phase }, { on := 5, ground := Ground.phase }, { on := 6, ground := Ground.phase }, { on := 7, ground := Ground.textOnly Departure.lateStores }, { on := 8, ground := Ground.phase }], guard := none }) rfl (fun K hK => ?_) AllReadyH.nil)
          refine step_put 23 64 arrB rfl (.tmp 19) (.tmp 169) rfl g19 (by rfl) U.l (by rfl) hU _ y8 (by simp) ?_
          intro v9 y9 s9
          refine hK.out _ _ (((Stp.of_below hHeld (fun x => V.heap.size ≤ x)).next s9 (fun x hx => .inl (by subst hx; exact m8))).below (Nat.le_refl _) (fun _ h => h)) (fun hHeld => ?_)
          clear hK K
          try simp only [Act.put]
          refine wpAnyH_take (i := 10) (oi := { dst := some 20, op := Op.assign (Operand.tmp 170), type := 30, pos := _, after := #[{ on := 7, ground := Ground.data }, { on := 9, ground := Ground.chain }, { on := 0, ground := Ground.phase }, { on := 1, ground := Ground.phase }, { on := 2, ground := Ground.phase }, { on := 3, ground := Ground.phase }, { on := 4, ground := Ground.phase }, { on := 5, ground := Ground.phase }, { on := 6, ground := Ground.phase }, { on := 7, ground := Ground.phase }, { on := 8, ground := Ground.phase }, { on := 9, ground := Ground.phase }], guard := none }) (v := .int .i64 0) rfl (by kernel_rfl) (by kernel_rfl) (by kernel_rfl) (fun _ _ _ h => h) (Or.inl ⟨by rfl, ?_⟩) hHeld ?_
          · intro u hu
            go_simp
          try simp only [Act.put, List.setIfInBounds_toArray, List.set_cons_zero, List.set_cons_succ]
          refine wpAnyH_done (by kernel_rfl) ?_ _
          have rb9 := rbV.later hHeld
          have rX9 := rX.later hHeld
          have rS9 := rS.later hHeld
          have P9 := P2V.later hHeld
          have B9 := bnext BV hHeld (Nat.le_refl _)
          clear hWo hNow2 PV hIV rbV rX rS P2V BV hHeld s9
          have t1 : Hid True := trivial
          have t2 : Hid True := trivial
          have t3 : Hid True := trivial
          go_wp2_with (first
            | (clear t1; refine at_get 23 64 arrB (by rfl) _ (by rfl) g4 (by rfl) _ rb9 hb ?_)
            | (go_at_call 17; refine (hNow3 _ P9).mono ?_; rintro e w1' ⟨rfl, c1⟩)
            | (clear t2; refine at_new 23 64 arrB (by rfl) (by rfl) ?_; intro g21 w2' k2 z2 y2 b2)
            | (clear t3; refine at_put 23 64 arrB (by rfl) _ _ (by rfl) g21 (by rfl) S.l (by rfl) hS _ y2 (by simp) ?_; intro w3' rN s3
               have S3 : Stp (fun _ => False) v9 w3' := (Stp.of_below (bnext c1 b2 (Nat.le_refl _)) (fun _ => False)).next s3 (fun x hx => .inr (by subst hx; have := c1.size; omega))
               have b3 := S3.below (Nat.le_refl _) (fun _ h => h.elim)
               have rX3 := rX9.later b3
               have rS3 := rS9.later b3
               have rU3 := y9.later b3
               have B3 := bnext B9 b3 (Nat.le_refl _)
               clear rb9 rX9 rS9 y9 B9 P9 b3 S3 s3 y2 b2 c1 k2 z2
               have u1 : Hid True := trivial
               have u2 : Hid True := trivial
               have u3 : Hid True := trivial
               have u4 : Hid True := trivial)
            | (clear u1; refine at_getB (by rfl) _ (by rfl) g21 (by rfl) S rN ?_)
            | (clear u2; refine at_getB (by rfl) _ (by rfl) g17 (by rfl) S rS3 ?_)
            | (clear u3; refine at_getB (by rfl) _ (by rfl) g15 (by rfl) X rX3 ?_)
            | (clear u4; refine at_getB (by rfl) _ (by rfl) g19 (by rfl) U rU3 ?_)
            | (go_at_call 26; refine (HS _).mono ?_; rintro e w9 ⟨rfl, b9⟩))
          go_returns
          exact ⟨rfl, bnext B3 b9 (Nat.le_refl _)⟩
        · skip
          refine step_new 23 64 arrB rfl rfl ?_
          intro g19 v8 a8 z8 y8 b8
          have m8 : V.heap.size ≤ g19 := Nat.le_trans hHeld.size a8
          try (have Q3 := Q3.later b8)
          refine hK.out _ _ (bnext hHeld b8 (Nat.le_refl _)) (fun hHeld => ?_)
          clear hK K
          try simp only [Act.put, List.setIfInBounds_toArray, List.set_cons_zero, List.set_cons_succ]
          refine wpAnyH_ready (rs := [4]) (by kernel_rfl) (by simp) ?_
          refine (AllReadyH.cons (o := { dst := some 168, op := Op.call { callee := Callee.value (Operand.func 17), args := #[Operand.tmp 164, Operand.tmp 167], argTypes := #[23, 39] }, type := 31, pos := _, after := #[{ on := 0, ground := Ground.data }, { on := 3, ground := Ground.data }, { on := 3, ground := Ground.chain }], guard := none }) rfl (fun K hK => ?_) AllReadyH.nil)
          go_simp
          refine (hNow2 _ ⟨xa, xn, xc⟩ Q3).mono ?_
          rintro e v4 ⟨rfl, c4⟩
          try go_wp2_with fail
          try (have y8 := y8.later c4)
          refine hK.out _ _ (bnext hHeld c4 (Nat.le_refl _)) (fun hHeld => ?_)
          clear hK K
          try simp only [Act.put, List.setIfInBounds_toArray, List.set_cons_zero, List.set_cons_succ]
          refine wpAnyH_take (i := 5) (oi := { dst := some 163, op := Op.move (Operand.tmp 168), type := 31, pos := _, after := #[{ on := 4, ground := Ground.data }], guard := none }) (v := .tuple #[.agg U.cs.toArray, .int .i64 0]) rfl (by kernel_rfl) (by kernel_rfl) (by kernel_rfl) (fun _ _ _ h => h) (Or.inl ⟨by rfl, ?_⟩) hHeld ?_
          · intro u hu
            go_simp
          try simp only [Act.put, List.setIfInBounds_toArray, List.set_cons_zero, List.set_cons_succ]
          refine wpAnyH_take (i := 6) (oi := { dst := some 169, op := Op.extract (Operand.tmp 163) 0, type := 23, pos := _, after := #[{ on := 5, ground := Ground.data }], guard := none }) (v := .agg U.cs.toArray) rfl (by kernel_rfl) (by kernel_rfl) (by kernel_rfl) (fun _ _ _ h => h) (Or.inl ⟨by rfl, ?_⟩) hHeld ?_
          · intro u hu
            go_simp
          try simp only [Act.put, List.setIfInBounds_toArray, List.set_cons_zero, List.set_cons_succ]
          refine wpAnyH_take (i := 7) (oi := { dst := some 170, op := Op.extract (Operand.tmp 163) 1, type := 30, pos := _, after := #[{ on := 5, ground := Ground.data }, { on := 9, ground := Ground.gcOnly Departure.lateStores }], guard := none }) (v := .int .i64 0) rfl (by kernel_rfl) (by kernel_rfl) (by kernel_rfl) (fun _ _ _ h => h) (Or.inl ⟨by rfl, ?_⟩) hHeld ?_
          · intro u hu
            go_simp
          try simp only [Act.put, List.setIfInBounds_toArray, List.set_cons_zero, List.set_cons_succ]
          refine wpAnyH_ready (rs := [9]) (by kernel_rfl) (by simp) ?_
          refine (AllReadyH.cons (o := { dst := none, op := Op.store 23 (Operand.tmp 19) (Operand.tmp 169), type := 0, pos := _, after := #[{ on := 8, ground := Ground.data }, { on := 6, ground := Ground.data }, { on := 4, ground := Ground.chain }, { on := 0, ground := Ground.phase }, { on := 1, ground := Ground.phase }, { on := 2, ground := Ground.phase }, { on := 3, ground := Ground.phase }, { on := 4, ground := Ground.phase }, { on := 5, ground := Ground.phase }, { on := 6, ground := Ground.phase }, { on := 7, ground := Ground.textOnly Departure.lateStores }, { on := 8, ground := Ground.phase }], guard := none }) rfl (fun K hK => ?_) AllReadyH.nil)
          refine step_put 23 64 arrB rfl (.tmp 19) (.tmp 169) rfl g19 (by rfl) U.l (by rfl) hU _ y8 (by simp) ?_
          intro v9 y9 s9
          refine hK.out _ _ (((Stp.of_below hHeld (fun x => V.heap.size ≤ x)).next s9 (fun x hx => .inl (by subst hx; exact m8))).below (Nat.le_refl _) (fun _ h => h)) (fun hHeld => ?_)
          clear hK K
          try simp only [Act.put]
          refine wpAnyH_take (i := 10) (oi := { dst := some 20, op := Op.assign (Operand.tmp 170), type := 30, pos := _, after := #[{ on := 7, ground := Ground.data }, { on := 9, ground := Ground.chain }, { on := 0, ground := Ground.phase }, { on := 1, ground := Ground.phase }, { on := 2, ground := Ground.phase }, { on := 3, ground := Ground.phase }, { on := 4, ground := Ground.phase }, { on := 5, ground := Ground.phase }, { on := 6, ground := Ground.phase }, { on := 7, ground := Ground.phase }, { on := 8, ground := Ground.phase }, { on := 9, ground := Ground.phase }], guard := none }) (v := .int .i64 0) rfl (by kernel_rfl) (by kernel_rfl) (by kernel_rfl) (fun _ _ _ h => h) (Or.inl ⟨by rfl, ?_⟩) hHeld ?_
          · intro u hu
            go_simp
          try simp only [Act.put, List.setIfInBounds_toArray, List.set_cons_zero, List.set_cons_succ]
          refine wpAnyH_done (by kernel_rfl) ?_ _
          have rb9 := rbV.later hHeld
          have rX9 := rX.later hHeld
          have rS9 := rS.later hHeld
          have P9 := P2V.later hHeld
          have B9 := bnext BV hHeld (Nat.le_refl _)
          clear hWo hNow2 PV hIV rbV rX rS P2V BV hHeld s9
          have t1 : Hid True := trivial
          have t2 : Hid True := trivial
          have t3 : Hid True := trivial
          go_wp2_with (first
            | (clear t1; refine at_get 23 64 arrB (by rfl) _ (by rfl) g4 (by rfl) _ rb9 hb ?_)
            | (go_at_call 17; refine (hNow3 _ P9).mono ?_; rintro e w1' ⟨rfl, c1⟩)
            | (clear t2; refine at_new 23 64 arrB (by rfl) (by rfl) ?_; intro g21 w2' k2 z2 y2 b2)
            | (clear t3; refine at_put 23 64 arrB (by rfl) _ _ (by rfl) g21 (by rfl) S.l (by rfl) hS _ y2 (by simp) ?_; intro w3' rN s3
               have S3 : Stp (fun _ => False) v9 w3' := (Stp.of_below (bnext c1 b2 (Nat.le_refl _)) (fun _ => False)).next s3 (fun x hx => .inr (by subst hx; have := c1.size; omega))
               have b3 := S3.below (Nat.le_refl _) (fun _ h => h.elim)
               have rX3 := rX9.later b3
               have rS3 := rS9.later b3
               have rU3 := y9.later b3
               have B3 := bnext B9 b3 (Nat.le_refl _)
               clear rb9 rX9 rS9 y9 B9 P9 b3 S3 s3 y2 b2 c1 k2 z2
               have u1 : Hid True := trivial
               have u2 : Hid True := trivial
               have u3 : Hid True := trivial
               have u4 : Hid True := trivial)
            | (clear u1; refine at_getB (by rfl) _ (by rfl) g21 (by rfl) S rN ?_)
            | (clear u2; refine at_getB (by rfl) _ (by rfl) g17 (by rfl) S rS3 ?_)
            | (clear u3; refine at_getB (by rfl) _ (by rfl) g15 (by rfl) X rX3 ?_)
            | (clear u4; refine at_getB (by rfl) _ (by rfl) g19 (by rfl) U rU3 ?_)
            | (go_at_call 26; refine (HS _).mono ?_; rintro e w9 ⟨rfl, b9⟩))
          go_returns
          exact ⟨rfl, bnext B3 b9 (Nat.le_refl _)⟩
      · skip
        refine step_new 23 64 arrB rfl rfl ?_
        intro g19 v8 a8 z8 y8 b8
        have m8 : V.heap.size ≤ g19 := Nat.le_trans hHeld.size a8
        try (have Q3 := Q3.later b8)
        refine hK.out _ _ (bnext hHeld b8 (Nat.le_refl _)) (fun hHeld => ?_)
        clear hK K
        try simp only [Act.put, List.setIfInBounds_toArray, List.set_cons_zero, List.set_cons_succ]
        refine wpAnyH_ready (rs := [3]) (by kernel_rfl) (by simp) ?_
        refine (AllReadyH.cons (o := { dst := some 167, op := Op.call { callee := Callee.value (Operand.func 22), args := #[Operand.tmp 165, Operand.tmp 166], argTypes := #[39, 25] }, type := 39, pos := _, after := #[{ on := 1, ground := Ground.data }, { on := 2, ground := Ground.data }], guard := none }) rfl (fun K hK => ?_) AllReadyH.nil)
        go_simp
        refine (hWo _ (PV.later hHeld) (hIV.later hHeld)).mono ?_
        rintro e v3 ⟨⟨xa, xn, xc⟩, rfl, Q3, c3'⟩
        try go_wp2_with fail
        try (have y8 := y8.later c3')
        refine hK.out _ _ (bnext hHeld c3' (Nat.le_refl _)) (fun hHeld => ?_)
        clear hK K
        try simp only [Act.put, List.setIfInBounds_toArray, List.set_cons_zero, List.set_cons_succ]
        refine wpAnyH_ready (rs := [4]) (by kernel_rfl) (by simp) ?_
        refine (AllReadyH.cons (o := { dst := some 168, op := Op.call { callee := Callee.value (Operand.func 17), args := #[Operand.tmp 164, Operand.tmp 167], argTypes := #[23, 39] }, type := 31, pos := _, after := #[{ on := 0, ground := Ground.data }, { on := 3, ground := Ground.data }, { on := 3, ground := Ground.chain }], guard := none }) rfl (fun K hK => ?_) AllReadyH.nil)
        go_simp
        refine (hNow2 _ ⟨xa, xn, xc⟩ Q3).mono ?_
        rintro e v4 ⟨rfl, c4⟩
        try go_wp2_with fail
        try (have y8 := y8.later c4)
        refine hK.out _ _ (bnext hHeld c4 (Nat.le_refl _)) (fun hHeld => ?_)
        clear hK K
        try simp only [Act.put, List.setIfInBounds_toArray, List.set_cons_zero, List.set_cons_succ]
        refine wpAnyH_take (i := 5) (oi := { dst := some 163, op := Op.move (Operand.tmp 168), type := 31, pos := _, after := #[{ on := 4, ground := Ground.data }], guard := none }) (v := .tuple #[.agg U.cs.toArray, .int .i64 0]) rfl (by kernel_rfl) (by kernel_rfl) (by kernel_rfl) (fun _ _ _ h => h) (Or.inl ⟨by rfl, ?_⟩) hHeld ?_
        · intro u hu
          go_simp
        try simp only [Act.put, List.setIfInBounds_toArray, List.set_cons_zero, List.set_cons_succ]
        refine wpAnyH_take (i := 6) (oi := { dst := some 169, op := Op.extract (Operand.tmp 163) 0, type := 23, pos := _, after := #[{ on := 5, ground := Ground.data }], guard := none }) (v := .agg U.cs.toArray) rfl (by kernel_rfl) (by kernel_rfl) (by kernel_rfl) (fun _ _ _ h => h) (Or.inl ⟨by rfl, ?_⟩) hHeld ?_
        · intro u hu
          go_simp
        try simp only [Act.put, List.setIfInBounds_toArray, List.set_cons_zero, List.set_cons_succ]
        refine wpAnyH_take (i := 7) (oi := { dst := some 170, op := Op.extract (Operand.tmp 163) 1, type := 30, pos := _, after := #[{ on := 5, ground := Ground.data }, { on := 9, ground := Ground.gcOnly Departure.lateStores }], guard := none }) (v := .int .i64 0) rfl (by kernel_rfl) (by kernel_rfl) (by kernel_rfl) (fun _ _ _ h => h) (Or.inl ⟨by rfl, ?_⟩) hHeld ?_
        · intro u hu
          go_simp
        try simp only [Act.put, List.setIfInBounds_toArray, List.set_cons_zero, List.set_cons_succ]
        refine wpAnyH_ready (rs := [9]) (by kernel_rfl) (by simp) ?_
        refine (AllReadyH.cons (o := { dst := none, op := Op.store 23 (Operand.tmp 19) (Operand.tmp 169), type := 0, pos := _, after := #[{ on := 8, ground := Ground.data }, { on := 6, ground := Ground.data }, { on := 4, ground := Ground.chain }, { on := 0, ground := Ground.phase }, { on := 1, ground := Ground.phase }, { on := 2, ground := Ground.phase }, { on := 3, ground := Ground.phase }, { on := 4, ground := Ground.phase }, { on := 5, ground := Ground.phase }, { on := 6, ground := Ground.phase }, { on := 7, ground := Ground.textOnly Departure.lateStores }, { on := 8, ground := Ground.phase }], guard := none }) rfl (fun K hK => ?_) AllReadyH.nil)
        refine step_put 23 64 arrB rfl (.tmp 19) (.tmp 169) rfl g19 (by rfl) U.l (by rfl) hU _ y8 (by simp) ?_
        intro v9 y9 s9
        refine hK.out _ _ (((Stp.of_below hHeld (fun x => V.heap.size ≤ x)).next s9 (fun x hx => .inl (by subst hx; exact m8))).below (Nat.le_refl _) (fun _ h => h)) (fun hHeld => ?_)
        clear hK K
        try simp only [Act.put]
        refine wpAnyH_take (i := 10) (oi := { dst := some 20, op := Op.assign (Operand.tmp 170), type := 30, pos := _, after := #[{ on := 7, ground := Ground.data }, { on := 9, ground := Ground.chain }, { on := 0, ground := Ground.phase }, { on := 1, ground := Ground.phase }, { on := 2, ground := Ground.phase }, { on := 3, ground := Ground.phase }, { on := 4, ground := Ground.phase }, { on := 5, ground := Ground.phase }, { on := 6, ground := Ground.phase }, { on := 7, ground := Ground.phase }, { on := 8, ground := Ground.phase }, { on := 9, ground := Ground.phase }], guard := none }) (v := .int .i64 0) rfl (by kernel_rfl) (by kernel_rfl) (by kernel_rfl) (fun _ _ _ h => h) (Or.inl ⟨by rfl, ?_⟩) hHeld ?_
        · intro u hu
          go_simp
        try simp only [Act.put, List.setIfInBounds_toArray, List.set_cons_zero, List.set_cons_succ]
        refine wpAnyH_done (by kernel_rfl) ?_ _
        have rb9 := rbV.later hHeld
        have rX9 := rX.later hHeld
        have rS9 := rS.later hHeld
        have P9 := P2V.later hHeld
        have B9 := bnext BV hHeld (Nat.le_refl _)
        clear hWo hNow2 PV hIV rbV rX rS P2V BV hHeld s9
        have t1 : Hid True := trivial
        have t2 : Hid True := trivial
        have t3 : Hid True := trivial
        go_wp2_with (first
          | (clear t1; refine at_get 23 64 arrB (by rfl) _ (by rfl) g4 (by rfl) _ rb9 hb ?_)
          | (go_at_call 17; refine (hNow3 _ P9).mono ?_; rintro e w1' ⟨rfl, c1⟩)
          | (clear t2; refine at_new 23 64 arrB (by rfl) (by rfl) ?_; intro g21 w2' k2 z2 y2 b2)
          | (clear t3; refine at_put 23 64 arrB (by rfl) _ _ (by rfl) g21 (by rfl) S.l (by rfl) hS _ y2 (by simp) ?_; intro w3' rN s3
             have S3 : Stp (fun _ => False) v9 w3' := (Stp.of_below (bnext c1 b2 (Nat.le_refl _)) (fun _ => False)).next s3 (fun x hx => .inr (by subst hx; have := c1.size; omega))
             have b3 := S3.below (Nat.le_refl _) (fun _ h => h.elim)
             have rX3 := rX9.later b3
             have rS3 := rS9.later b3
             have rU3 := y9.later b3
             have B3 := bnext B9 b3 (Nat.le_refl _)
             clear rb9 rX9 rS9 y9 B9 P9 b3 S3 s3 y2 b2 c1 k2 z2
             have u1 : Hid True := trivial
             have u2 : Hid True := trivial
             have u3 : Hid True := trivial
             have u4 : Hid True := trivial)
          | (clear u1; refine at_getB (by rfl) _ (by rfl) g21 (by rfl) S rN ?_)
          | (clear u2; refine at_getB (by rfl) _ (by rfl) g17 (by rfl) S rS3 ?_)
          | (clear u3; refine at_getB (by rfl) _ (by rfl) g15 (by rfl) X rX3 ?_)
          | (clear u4; refine at_getB (by rfl) _ (by rfl) g19 (by rfl) U rU3 ?_)
          | (go_at_call 26; refine (HS _).mono ?_; rintro e w9 ⟨rfl, b9⟩))
        go_returns
        exact ⟨rfl, bnext B3 b9 (Nat.le_refl _)⟩
theorem walk (b : Blk) (a1 : Int) (a2 : Option Addr) (n2 c2 : Nat) (L0 : List Pe) (a3 : Option Addr) (n3 c3 : Nat) (wl : List Bool) (w : World) (w1 : (Lit.int .u8 a1).wf = true) (h2 : Ps w (fun x => x < w.heap.size) ⟨a2, n2, c2⟩ L0) (h3 : Bos w a3 n3 c3 wl) :
    Calls Try.prog 6 #[.agg b.cs.toArray, .int .u8 a1, .slice a2 n2 c2, .slice a3 n3 c3] w fun e w' => e = .returned (.bool true) ∧ Below w.heap.size w w' := by
  have r1 := bounds_u8 w1
  obtain ⟨k0, rfl⟩ := Int.eq_ofNat_of_zero_le (show 0 ≤ a1 by omega)
  exact walk_nat b k0 a2 n2 c2 L0 a3 n3 c3 wl w (by omega) h2 h3

theorem own : ownKnob Try.prog.godebug = none := by kernel_rfl
theorem laidOut : laidOutB Try.prog = true := by kernel_rfl
set_option maxRecDepth 100000 in
theorem lifted (os : Os) (started : os.Started) (H : Type) (enc : TypeId × Value → H) :
    ReturnsInHanded {} Try.checked os 6 .any (Rows.rollPartsSpec.pre6 enc Try.prog Try.f6 Rows.rollPartsRow.domain false) (Rows.rollPartsSpec.post enc Try.prog Try.f6 false true false false) := by
  refine returnsInHanded_of_change (C := Try.checked) own started (by kernel_rfl) Try.func6
    (ChangeSpec.witness6 (enc := enc) (C := Try.checked) false ⟨#[], #[.agg Blk.zero.cs.toArray, .int .u8 0, .slice none 0 0, .slice none 0 0], []⟩ 8 (by kernel_rfl) (by kernel_rfl) (by kernel_rfl) (by kernel_rfl)) ?_
  intro W base args ds gs before hval0 hW hcnd _
  have hval : ∀ (j : Nat) t v, Try.f6.params[j]? = some t → args[j]? = some v → Value.okWide Try.prog W .any base t v := hval0
  have hW' := hW
  obtain ⟨p, q, hA0, hV, rfl, hfz, hnd⟩ := hW
  have hA : DataW.TrodAll enc Try.prog W 0 (fun _ => true) true Try.f6.params.toList args.toList ds p := hA0
  rw [Try.params6] at hA hval
  obtain ⟨v0, vs0, d0, ds0, p0, q0, hargs, rfl, rfl, h0, r0⟩ := trodAll_cons hA
  obtain ⟨v1, vs1, d1, ds1, p1, q1, rfl, rfl, rfl, h1, r1⟩ := trodAll_cons r0
  obtain ⟨v2, vs2, d2, ds2, p2, q2, rfl, rfl, rfl, h2, r2⟩ := trodAll_cons r1
  obtain ⟨v3, vs3, d3, ds3, p3, q3, rfl, rfl, rfl, h3, r3⟩ := trodAll_cons r2
  obtain ⟨rfl, rfl, rfl⟩ := trodAll_nil r3
  obtain rfl : args = #[v0, v1, v2, v3] := by cases args; simp_all
  obtain ⟨rfl, rfl⟩ := trodVars_none hV
  obtain ⟨cs0, rfl, _⟩ := okWide_row arrB.und (hval 0 23 v0 rfl rfl)
  have k0 := h0
  have lt0 : ∀ x ∈ p0, x.block < W.heap.size := by obtain ⟨m, hm⟩ := k0; exact DataW.trod_lt m _ _ _ hm
  obtain ⟨b0, e0⟩ : ∃ b : Blk, cs0 = b.cs.toArray := by
    obtain ⟨fuel, hf⟩ := h0
    obtain ⟨b, hb⟩ := blkOfTrod hf
    exact ⟨b, by rw [hb]; simp [Value.cells]⟩
  subst e0
  obtain ⟨a1, rfl, rfl, rfl, w1⟩ := open_int Try.underlying5 (hval 1 5 v1 rfl rfl) h1
  obtain ⟨a2, len2, cap2, rfl⟩ := okWide_slice Try.underlying39 (hval 2 39 v2 rfl rfl)
  have k2 := h2
  have lt2 : ∀ x ∈ p2, x.block < W.heap.size := by obtain ⟨m, hm⟩ := k2; exact DataW.trod_lt m _ _ _ hm
  obtain ⟨z2, w2⟩ : ∃ zs, Ps W (fun x => x < W.heap.size) ⟨a2, len2, cap2⟩ zs := by
    obtain ⟨fuel, hf⟩ := h2
    obtain ⟨a, n, c, l, hcs, hi⟩ := pts_of_trod hf
    simp [Value.cells] at hcs
    obtain ⟨rfl, rfl, rfl⟩ := hcs
    exact ⟨_, hi⟩
  obtain ⟨a3, len3, cap3, rfl⟩ := okWide_slice Try.underlying50 (hval 3 50 v3 rfl rfl)
  have k3 := h3
  have lt3 : ∀ x ∈ p3, x.block < W.heap.size := by obtain ⟨m, hm⟩ := k3; exact DataW.trod_lt m _ _ _ hm
  obtain ⟨z3, w3⟩ : ∃ zs, Bos W a3 len3 cap3 zs := by
    obtain ⟨fuel, hf⟩ := h3
    obtain ⟨a, n, c, l, hcs, hi⟩ := bos_of_trod hf
    simp [Value.cells] at hcs
    obtain ⟨rfl, rfl, rfl⟩ := hcs
    exact ⟨_, hi⟩
  clear hA0 hval0
  refine (walk b0 a1 a2 len2 cap2 z2 a3 len3 cap3 z3 W w1 w2 w3).mono fun e W' ⟨he, bel⟩ => ?_
  subst he
  exact ⟨_, rfl, _, _, _, [], _, [], hW', trodAll_mk1 (shut_bool Try.underlying4 _), (trodAll_cons_mk (Below.trod laidOut (by kernel_rfl) (of_decide_eq_true (by kernel_rfl)) k0 bel lt0) (trodAll_cons_mk (shut_int Try.underlying5 w1) (trodAll_cons_mk (Below.trod laidOut (by kernel_rfl) (of_decide_eq_true (by kernel_rfl)) k2 bel lt2) (trodAll_cons_mk (Below.trod laidOut (by kernel_rfl) (of_decide_eq_true (by kernel_rfl)) k3 bel lt3) trodAll_mk0)))), rfl, bel.frame _, fun h => by cases h⟩
theorem over : Rows.rollPartsRow.holds Try.pinned (OpenSpec.ofChange Rows.rollPartsSpec) :=
  OpenClaim.holds_of_wide 6 Try.f6 rfl rfl rfl rfl rfl rfl rfl ⟨rfl, rfl, rfl, rfl, rfl⟩ rfl rfl rfl rfl rfl (by kernel_rfl) Try.func6 (by kernel_rfl)
    (of_decide_eq_true (by kernel_rfl)) (by unfold Func.isWrapper; first | (rw [if_pos (by decide +kernel)]; kernel_rfl) | (rw [if_neg (by decide +kernel)]; exact ⟨rfl, rfl⟩))
    (fun os started H enc _ => lifted os started H enc)
end Go.Proofs.Yteceapdkgidenaa.rollParts
namespace Go.Proofs.Yteceapdkgidenaa
/-- The statement. -/
theorem rollParts_holds : Rows.RollPartsSaid := rollParts.over
#print axioms rollParts_holds
end Go.Proofs.Yteceapdkgidenaa
