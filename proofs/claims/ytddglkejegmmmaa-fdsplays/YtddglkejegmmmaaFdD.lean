/-
  What Used, Full and Count of layer 24 return: no statement is proved here.
-/
import Derived.Test.YtddglkejegmmmaaFdC
namespace Go.Proofs.Ytddglkejegmmmaa
open Go.ChangeShapes Go.WideShapes Go.ChangeAt Go.RowKit
set_option linter.unusedVariables false
set_option linter.unusedSimpArgs false

/-- A list of numbers that was handed out. -/
def LiR (w : World) (l : List Int) (v : Value) (w' : World) : Prop := OwV w' v l ∧ New w.heap.size v ∧ Below w.heap.size w w'
theorem LiR.app {u wr w' : World} {l : List Int} {v v' : Value} {y : Int} (h : LiR u l v wr) (hA : Apd wr u.heap.size 3 1 v l.length 1 (l.map (Value.int .i64) ++ [.int .i64 y]) v' w') : LiR u (l ++ [y]) v' w' := by
  obtain ⟨o, n, b⟩ := h
  obtain ⟨h1, h2, h3, h4, _⟩ := hA
  refine ⟨?_, h2, ((Stp.of_below b (fun _ => False)).next h4 (fun x e => .inr (n x e))).below (Nat.le_refl _) (fun _ h => h.elim)⟩
  unfold OwV
  simpa using h1
theorem LiR.later {u wr w' : World} {l : List Int} {v : Value} (h : LiR u l v wr) (b : Below wr.heap.size wr w') : LiR u l v w' := ⟨h.1.later b, h.2.1, bnext h.2.2 b (Nat.le_refl _)⟩
theorem arr8 : (Try.prog.info? 50).map (·.size) = some 8 := by kernel_rfl
theorem run_idx8 (F : Nat → Value) (w : World) {k : Nat} (hk : k < 8) : (Instr.index 50 (.agg ((List.range 8).map F).toArray) (.int .i64 (k : Int))).run Try.prog w = .ok (F k) w := by
  obtain rfl | rfl | rfl | rfl | rfl | rfl | rfl | rfl : k = 0 ∨ k = 1 ∨ k = 2 ∨ k = 3 ∨ k = 4 ∨ k = 5 ∨ k = 6 ∨ k = 7 := by omega
  all_goals kernel_rfl
section
variable {ops : Array Oper} {rest : List Oper} {o : Oper} {a : Act} {w : World} {Q : Exit → Act → World → Prop}
theorem at_idx8 (hw : Region.wanted o (yielded ops a.tmps) = true) (x y : Operand) (ho : o.op = .index 50 x y) (F : Nat → Value) (k : Nat) (hk : k < 8) (hx : a.eval x = .agg ((List.range 8).map F).toArray) (hy : a.eval y = .int .i64 (k : Int))
    (h : wpList Try.prog ops Q rest (a.put o.dst (F k)) w) : wpList Try.prog ops Q (o :: rest) a w := by
  refine op_val hw _ _ ?_ h
  simp only [execOp, ho, hx, hy, Sem.run_bind, run_idx8 F w hk]; rfl
theorem at_ld8 (hw : Region.wanted o (yielded ops a.tmps) = true) (x : Operand) (ho : o.op = .load 50 x) (g : Nat) (hx : a.eval x = .pointer (some ⟨g, 0, none⟩)) (F : Nat → Value) (hR : Rfn w g 8 F)
    (h : wpList Try.prog ops Q rest (a.put o.dst (.agg ((List.range 8).map F).toArray)) w) : wpList Try.prog ops Q (o :: rest) a w :=
  at_getP 50 8 ⟨_, Try.underlying50, rfl⟩ arr8 hw x ho g 0 hx _ hR _ (by rw [List.drop_zero, List.take_of_length_le (by simp)]) (by simp) h
end
theorem fused_nil (w : World) :
    Calls Try.prog 21 #[.pointer none] w fun e w' => e = .returned (.slice none 0 0) ∧ w = w' := by
  go_enter Try.func21, Try.ntmps21
  go_wp2
  go_returns
  exact ⟨rfl, rfl⟩
theorem fused_any {w : World} {U : Nat → Prop} {g : Nat} {t : FT} (h : Fd w U g t) :
    Calls Try.prog 21 #[.pointer (some ⟨g, 0, none⟩)] w fun e w' => ∃ v, e = .returned v ∧ LiR w (fdUs t 8) v w' := by
  obtain ⟨q, h⟩ := h
  have hr := h.row
  have hidx := fun k (hk : k < 8) => run_idx8 (pv t q) w hk
  go_enter Try.func21, Try.ntmps21
  go_wp2_with (refine at_ld8 (by rfl) _ (by rfl) g (by rfl) (pv t q) hr ?_)
  go_loopw [3, 12] (fun v x wr => ∃ (k : Nat) (sv : Sv), k ≤ 8 ∧ x = .int .i64 (k : Int) ∧ v = .slice sv.a sv.n sv.c ∧ LiR w (fdUs t k) (.slice sv.a sv.n sv.c) wr) (fun _ x _ => 8 - (intOf x).toNat)
  case atStart => exact ⟨0, Sv.nil, Nat.zero_le _, rfl, rfl, OwV.nil w, (fun r e => by cases e), Below.refl _ _⟩
  case round =>
    obtain ⟨k, sv, hk, rfl, rfl, I⟩ := hrel
    have hln := fdUs_len t k
    have hu : w.heap.size ≤ wr.heap.size := I.2.2.size
    by_cases hlt : (k : Int) < 8
    · have hk8 : k < 8 := by omega
      obtain ⟨l, hl⟩ : ∃ l, Hid (fdUs t k = l) := ⟨_, rfl⟩
      rw [hl.out] at I hln
      cases ht : t k with
      | none =>
        have hL : fdUs t (k + 1) = l := by unfold fdUs; rw [hl.out, ht]; simp
        have hL' : Hid (fdUs t (k + 1) = l) := hL
        obtain ⟨pk, hpk⟩ : ∃ pk, Hid (pv t q k = pk) := ⟨_, rfl⟩
        have hp2 : pk = .pointer none := by rw [← hpk.out, pv_none ht]
        clear hL
        go_wp2_with (refine at_idx8 (by rfl) _ _ (by rfl) (pv t q) k hk8 (by rfl) (by rfl) ?_; rw [hpk.out]; subst hp2)
        go_roundw
        case rel => exact ⟨k + 1, sv, by omega, by go_num, rfl, by rw [hL'.out]; exact I⟩
        case measure => simp [intOf]; omega
      | some f =>
        have hL : fdUs t (k + 1) = l ++ [(k : Int)] := by unfold fdUs; rw [hl.out, ht]; simp
        have hL' : Hid (fdUs t (k + 1) = l ++ [(k : Int)]) := hL
        obtain ⟨pk, hpk⟩ : ∃ pk, Hid (pv t q k = pk) := ⟨_, rfl⟩
        have hp2 : pk = .pointer (some ⟨q k, 0, none⟩) := by rw [← hpk.out, pv_some ht]
        have hbig : l.length + 1 ≤ 1000000 := by omega
        clear hL
        go_wp2_with (first
          | (refine at_idx8 (by rfl) _ _ (by rfl) (pv t q) k hk8 (by rfl) (by rfl) ?_; rw [hpk.out]; subst hp2)
          | (at_builtin; refine at_appR elI w.heap.size rfl _ _ (by rfl) (by rfl) (I.later ((Below.refl _ wr).alloc (Nat.le_refl _) _)).1 I.2.1 (some ⟨wr.heap.size, 0, none⟩) 1 [.int .i64 (k : Int)] (by rfl) (by simp) (fun e => by cases e) (fun ad e => by injection e with e; subst e; exact cell_one_new _ _ _) (by simp [Value.oneCell']) hbig (Nat.le_trans hu (by simp)) ?_; intro v' w9 hA
             have I9 := (I.later ((Below.refl _ wr).alloc (Nat.le_refl _) _)).app hA
             obtain ⟨xa, xn, xc, rfl⟩ := I9.1.shape
             clear hA))
        go_roundw
        case rel => exact ⟨k + 1, ⟨xa, xn, xc⟩, by omega, by go_num, rfl, by rw [hL'.out]; exact I9⟩
        case measure => simp [intOf]; omega
    · have hk8 : k = 8 := by omega
      subst hk8
      go_wp2
      go_returns
      exact ⟨_, rfl, I⟩
theorem ffull_nil (w : World) :
    Calls Try.prog 23 #[.pointer none] w fun e w' => e = .returned (.bool false) ∧ w = w' := by
  go_enter Try.func23, Try.ntmps23
  go_wp2
  go_returns
  exact ⟨rfl, rfl⟩
theorem ffull_any {w : World} {U : Nat → Prop} {g : Nat} {t : FT} (h : Fd w U g t) :
    Calls Try.prog 23 #[.pointer (some ⟨g, 0, none⟩)] w fun e w' => e = .returned (.bool (decide ((fdFr t : Int) = 8))) ∧ w = w' := by
  have hF := ffree_any h
  obtain ⟨n, hn⟩ : ∃ n : Nat, Hid (fdFr t = n) := ⟨_, rfl⟩
  rw [hn.out] at hF ⊢
  go_enter Try.func23, Try.ntmps23
  go_wp2_with (go_at_call 25; refine hF.mono ?_; rintro e u ⟨rfl, rfl⟩; clear hF)
  go_returns
  refine ⟨?_, rfl⟩
  have e : ((n : Int) == 8) = decide ((n : Int) = 8) := by rw [Bool.eq_iff_iff]; simp
  simp [e]
theorem fcount_nil (x : Int) (w : World) :
    Calls Try.prog 18 #[.pointer none, .int .i64 x] w fun e w' => e = .returned (.int .i64 0) ∧ w = w' := by
  go_enter Try.func18, Try.ntmps18
  go_wp2_with (go_at_call 21; refine (fused_nil _).mono ?_; rintro e u ⟨rfl, rfl⟩)
  go_loopw [5, 11] (fun v x wr => v = .int .i64 0 ∧ x = .int .i64 0 ∧ w = wr) (fun _ x _ => 0)
  case atStart => exact ⟨rfl, rfl, rfl⟩
  case round =>
    obtain ⟨rfl, rfl, rfl⟩ := hrel
    go_wp2
    go_returns
    exact ⟨rfl, rfl⟩
theorem fcount_any {w : World} {U : Nat → Prop} {g : Nat} {t : FT} (h : Fd w U g t) (x : Int) :
    Calls Try.prog 18 #[.pointer (some ⟨g, 0, none⟩), .int .i64 x] w fun e w' => e = .returned (.int .i64 (fdCt t x 8)) ∧ Below w.heap.size w w' := by
  have hU := fused_any h
  have hcl := fdCl_us t x 8
  have hmem := fdUs_mem t 8
  have hln := fdUs_len t 8
  generalize fdUs t 8 = l at *
  obtain ⟨R, hR⟩ : ∃ R, Hid (fdCt t x 8 = R) := ⟨_, rfl⟩
  rw [hR.out] at hcl ⊢
  obtain ⟨q, h⟩ := h
  have hcl' : Hid _ := hcl
  clear hcl hR
  have hwf : ∀ y ∈ l, wfi y := fun y hy => by
    obtain ⟨j, rfl, hj, _⟩ := hmem y hy
    exact wfi_of (by omega)
  go_enter Try.func18, Try.ntmps18
  go_wp2_with (go_at_call 21; refine hU.mono ?_; rintro e w1 ⟨v, rfl, o1, n1, b1⟩
               obtain ⟨⟨sa, sn, sc⟩, rfl, e1, i1, -⟩ := o1.ins hwf n1
               simp only [Sv.v] at e1 ⊢
               subst e1)
  have hc1 := fun i => (h.later b1).fl i
  have H1 := h.later b1
  clear hU o1 n1
  go_loopw [5, 11] (fun n i wr => ∃ k : Nat, k ≤ l.length ∧ i = .int .i64 (k : Int) ∧ ∃ z : Int, n = .int .i64 z ∧ 0 ≤ z ∧ z ≤ k ∧ z + fdCl t x (l.drop k) = R ∧ w1 = wr) (fun _ i _ => l.length - (intOf i).toNat)
  case atStart => exact ⟨0, Nat.zero_le _, rfl, 0, rfl, by omega, by omega, by rw [List.drop_zero, hcl'.out]; omega, rfl⟩
  case round =>
    obtain ⟨k, hk, rfl, z, rfl, hz0, hz1, hz2, rfl⟩ := hrel
    have hz2' : Hid _ := hz2
    clear hz2
    by_cases hkl : (k : Int) < (l.length : Int)
    · have hkl' : k < l.length := by omega
      obtain ⟨bb, o, hbo, hcs⟩ := i1.i.cell (show 0 < l.length by omega)
      simp only at hbo
      subst hbo
      have ck := hcs k hkl'
      obtain ⟨j, hj, hj8, hjs⟩ := hmem (l.getD k 0) (by rw [List.getD_eq_getElem?_getD, List.getElem?_eq_getElem hkl']; exact List.getElem_mem _)
      obtain ⟨f, hf⟩ := Option.isSome_iff_exists.1 hjs
      have hd : l.drop k = (j : Int) :: l.drop (k + 1) := by
        rw [List.drop_eq_getElem_cons hkl', ← hj, List.getD_eq_getElem?_getD, List.getElem?_eq_getElem hkl']; rfl
      have hz3 := hz2'.out
      rw [hd, fdCl_cons] at hz3
      unfold fdC1 at hz3
      rw [Int.toNat_natCast, hf] at hz3
      simp only at hz3
      rw [hj] at ck
      have c1 := H1.at1 hj8 hf
      obtain ⟨u1, u2, u3⟩ := H1.fl j f hj8 hf
      have c2 := u3.cell 0 _ (show f.cs[0]? = some (.int .i64 f.i) from rfl)
      have a0 : (0 : Int) ≤ (j : Int) := by omega
      have a1 : (j : Int) < 8 := by omega
      have a2 : (0 : Int) ≤ (k : Int) := by omega
      clear hd hj hf hjs hcs u1 u2 u3
      by_cases hix : f.i = x
      · rw [if_pos hix] at hz3
        have hz4 : Hid _ := hz3
        obtain ⟨fi, hfi⟩ : ∃ fi, Hid (f.i = fi) := ⟨_, rfl⟩
        rw [hfi.out] at c2 hix
        subst hix
        clear hz3
        go_wp2
        go_roundw
        case rel => exact ⟨k + 1, by omega, by go_num, z + 1, by go_num, by omega, by omega, by have := hz4.out; omega, by simp⟩
        case measure => simp [intOf]; omega
      · rw [if_neg hix] at hz3
        have hz4 : Hid _ := hz3
        obtain ⟨fi, hfi⟩ : ∃ fi, Hid (f.i = fi) := ⟨_, rfl⟩
        rw [hfi.out] at c2 hix
        clear hz3
        go_wp2
        go_roundw
        case rel => exact ⟨k + 1, by omega, by go_num, z, by go_num, by omega, by omega, by have := hz4.out; omega, by simp⟩
        case measure => simp [intOf]; omega
    · have hk2 : k = l.length := by omega
      subst hk2
      have hz3 := hz2'.out
      rw [List.drop_length] at hz3
      simp only [fdCl] at hz3
      have hz4 : Hid (z = R) := by show z = R; omega
      clear hz3
      go_wp2
      go_returns
      exact ⟨by have := hz4.out; subst this; simp, b1⟩
end Go.Proofs.Ytddglkejegmmmaa
