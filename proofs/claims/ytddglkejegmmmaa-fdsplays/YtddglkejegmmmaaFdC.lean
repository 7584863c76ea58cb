/-
  What Get, Close, Seek and Open of layer 24 return: no statement is proved here.
-/
import Derived.Test.YtddglkejegmmmaaFdB
namespace Go.Proofs.Ytddglkejegmmmaa
open Go.ChangeShapes Go.WideShapes Go.ChangeAt Go.RowKit
set_option linter.unusedVariables false
set_option linter.unusedSimpArgs false

theorem srtFl : Srt 34 3 Fl.zero.cs :=
  ⟨⟨_, Try.underlying34, rfl⟩, by kernel_rfl, fun w => (zero_of_info (v := .agg Fl.zero.cs.toArray) (n := 3) (by kernel_rfl)).1 w, rfl, Fl.zero.cs_one⟩
section
variable {ops : Array Oper} {rest : List Oper} {o : Oper} {a : Act} {w : World} {Q : Exit → Act → World → Prop}
theorem at_newFl (hw : Region.wanted o (yielded ops a.tmps) = true) (ho : o.op = .alloc 34)
    (h : ∀ g w', w.heap.size ≤ g → g < w'.heap.size → Cs w' g Fl.zero.cs → Below w.heap.size w w' → wpList Try.prog ops Q rest (a.put o.dst (.pointer (some ⟨g, 0, none⟩))) w') : wpList Try.prog ops Q (o :: rest) a w :=
  at_newC 34 3 _ srtFl hw ho h
theorem at_getFl (hw : Region.wanted o (yielded ops a.tmps) = true) (y : Operand) (ho : o.op = .load 34 y) (g : Nat) (hx : a.eval y = .pointer (some ⟨g, 0, none⟩)) (f : Fl) (hR : Cs w g f.cs)
    (h : wpList Try.prog ops Q rest (a.put o.dst (.agg f.cs.toArray)) w) : wpList Try.prog ops Q (o :: rest) a w :=
  at_getC 34 3 _ srtFl hw y ho g hx f.cs hR rfl h
theorem at_putFl (hw : Region.wanted o (yielded ops a.tmps) = true) (y z : Operand) (ho : o.op = .store 34 y z) (g : Nat) (hx : a.eval y = .pointer (some ⟨g, 0, none⟩)) (f : Fl) (hy : a.eval z = .agg f.cs.toArray) (cs : List Value) (hR : Cs w g cs) (hl : cs.length = 3)
    (h : ∀ w', Cs w' g f.cs → Stp (fun x => x = g) w w' → wpList Try.prog ops Q rest (a.put o.dst undef) w') : wpList Try.prog ops Q (o :: rest) a w :=
  at_putC 34 3 _ srtFl hw y z ho g hx f.cs hy rfl f.cs_one cs hR hl h
end
theorem fget_any {w : World} {U : Nat → Prop} {g : Nat} {t : FT} (h : Fd w U g t) (x : Int) :
    Calls Try.prog 16 #[.pointer (some ⟨g, 0, none⟩), .int .i64 x] w fun e w' => e = .returned (.tuple #[.agg (fdGet t x).cs.toArray, .int .i64 (fdGetE t x)]) ∧ Below w.heap.size w w' := by
  obtain ⟨q, h⟩ := h
  cases hh : fdHas t x with
  | none =>
    have e1 : fdGet t x = Fl.zero := by unfold fdGet; rw [hh]; rfl
    have e2 : fdGetE t x = 46 := by unfold fdGetE; rw [hh]; rfl
    rw [e1, e2]
    have hA := fun w' (b : Below w.heap.size w w') => fat_no (h.later b) x hh
    clear e1 e2
    go_enter Try.func16, Try.ntmps16
    go_wp2_with (first
      | (refine at_newFl (by rfl) (by rfl) ?_; intro g1 w1 a1 a2 r1 b1)
      | (go_at_call 26; refine (hA _ b1).mono ?_; rintro e u ⟨rfl, rfl⟩; clear hA)
      | (refine at_putFl (by rfl) _ _ (by rfl) g1 (by rfl) Fl.zero (by rfl) _ r1 rfl ?_; intro w2 r2 s2))
    exact bodyPost_ret (retCt srtFl Try.results16 rfl rfl r2 rfl) rfl ⟨rfl, ((Stp.of_below b1 (fun _ => False)).next s2 (fun x e => .inr (by omega))).below (Nat.le_refl _) (fun _ h => h.elim)⟩
  | some f =>
    obtain ⟨k, hk, rfl⟩ : ∃ k : Nat, k < 8 ∧ x = (k : Int) := by
      unfold fdHas at hh
      split at hh
      · exact ⟨x.toNat, by omega, by omega⟩
      · cases hh
    have e1 : fdGet t (k : Int) = f := by unfold fdGet; rw [hh]; rfl
    have e2 : fdGetE t (k : Int) = 0 := by unfold fdGetE; rw [hh]; rfl
    rw [e1, e2]
    rw [fdHas_in hk] at hh
    have hA := fun w' (b : Below w.heap.size w w') => fat_yes (h.later b) k hk hh
    have hF := fun w' (b : Below w.heap.size w w') => ((h.later b).fl k f hk hh).2.2
    clear e1 e2
    go_enter Try.func16, Try.ntmps16
    go_wp2_with (first
      | (refine at_newFl (by rfl) (by rfl) ?_; intro g1 w1 a1 a2 r1 b1)
      | (go_at_call 26; refine (hA _ b1).mono ?_; rintro e u ⟨rfl, rfl⟩; clear hA)
      | (refine at_getFl (by rfl) _ (by rfl) (q k) (by rfl) f (hF _ b1) ?_)
      | (refine at_putFl (by rfl) _ _ (by rfl) g1 (by rfl) f (by rfl) _ r1 rfl ?_; intro w2 r2 s2))
    exact bodyPost_ret (retCt srtFl Try.results16 rfl rfl r2 rfl) rfl ⟨rfl, ((Stp.of_below b1 (fun _ => False)).next s2 (fun x e => .inr (by omega))).below (Nat.le_refl _) (fun _ h => h.elim)⟩
theorem fget_nil (x : Int) (w : World) :
    Calls Try.prog 16 #[.pointer none, .int .i64 x] w fun e w' => e = .returned (.tuple #[.agg Fl.zero.cs.toArray, .int .i64 1]) ∧ Below w.heap.size w w' := by
  go_enter Try.func16, Try.ntmps16
  go_wp2_with (first
    | (refine at_newFl (by rfl) (by rfl) ?_; intro g1 w1 a1 a2 r1 b1)
    | (go_at_call 26; refine (fat_nil x _).mono ?_; rintro e u ⟨rfl, rfl⟩)
    | (refine at_putFl (by rfl) _ _ (by rfl) g1 (by rfl) Fl.zero (by rfl) _ r1 rfl ?_; intro w2 r2 s2))
  exact bodyPost_ret (retCt srtFl Try.results16 rfl rfl r2 rfl) rfl ⟨rfl, ((Stp.of_below b1 (fun _ => False)).next s2 (fun x e => .inr (by omega))).below (Nat.le_refl _) (fun _ h => h.elim)⟩
theorem fclose_any {w : World} {U : Nat → Prop} {g : Nat} {t : FT} (h : Fd w U g t) (x : Int) :
    Calls Try.prog 11 #[.pointer (some ⟨g, 0, none⟩), .int .i64 x] w fun e w' => e = .returned (.tuple #[.agg (fdGet t x).cs.toArray, .int .i64 (fdGetE t x)]) ∧ Fd w' U g (fdClose t x) ∧ Stp U w w' := by
  obtain ⟨q, h⟩ := h
  have hgl := h.row.lt
  cases hh : fdHas t x with
  | none =>
    have e1 : fdGet t x = Fl.zero := by unfold fdGet; rw [hh]; rfl
    have e2 : fdGetE t x = 46 := by unfold fdGetE; rw [hh]; rfl
    have e3 : fdClose t x = t := by unfold fdClose; rw [hh]
    rw [e1, e2, e3]
    have hA := fun w' (b : Below w.heap.size w w') => fat_no (h.later b) x hh
    clear e1 e2 e3
    go_enter Try.func11, Try.ntmps11
    go_wp2_with (first
      | (refine at_newFl (by rfl) (by rfl) ?_; intro g1 w1 a1 a2 r1 b1)
      | (go_at_call 26; refine (hA _ b1).mono ?_; rintro e u ⟨rfl, rfl⟩; clear hA)
      | (refine at_putFl (by rfl) _ _ (by rfl) g1 (by rfl) Fl.zero (by rfl) _ r1 rfl ?_; intro w2 r2 s2))
    have B : Below w.heap.size w w2 := ((Stp.of_below b1 (fun _ => False)).next s2 (fun x e => .inr (by omega))).below (Nat.le_refl _) (fun _ h => h.elim)
    exact bodyPost_ret (retCt srtFl Try.results11 rfl rfl r2 rfl) rfl ⟨rfl, ⟨q, h.later B⟩, Stp.of_below B U⟩
  | some f =>
    obtain ⟨k, hk, rfl⟩ : ∃ k : Nat, k < 8 ∧ x = (k : Int) := by
      unfold fdHas at hh
      split at hh
      · exact ⟨x.toNat, by omega, by omega⟩
      · cases hh
    have e1 : fdGet t (k : Int) = f := by unfold fdGet; rw [hh]; rfl
    have e2 : fdGetE t (k : Int) = 0 := by unfold fdGetE; rw [hh]; rfl
    have e3 : fdClose t (k : Int) = fdUp t k none := by unfold fdClose; rw [hh]; simp
    rw [e1, e2, e3]
    rw [fdHas_in hk] at hh
    have hA := fun w' (b : Below w.heap.size w w') => fat_yes (h.later b) k hk hh
    have a0 : (0 : Int) ≤ (k : Int) := by omega
    have a1 : (k : Int) < 8 := by omega
    have tk : Hid True := trivial
    clear e1 e2 e3
    go_enter Try.func11, Try.ntmps11
    go_wp2_with (first
      | (refine at_newFl (by rfl) (by rfl) ?_; intro g1 w1 z1 z2 r1 b1
         have h1 := h.later b1
         have c1 := h1.at1 hk hh
         have f1 := h1.row.fz k
         have c2 := (h1.fl k f hk hh).2.2.step ((Stp.refl (fun x => x = g) w1).setCell (p := ⟨g, k, none⟩) (.inl rfl) (.pointer none)) (fun e => (h1.fl k f hk hh).2.1 e))
      | (go_at_call 26; refine (hA _ b1).mono ?_; rintro e u ⟨rfl, rfl⟩; clear hA)
      | (refine at_getFl (by rfl) _ (by rfl) (q k) (by rfl) f c2 ?_)
      | (refine at_putFl (by rfl) _ _ (by rfl) g1 (by rfl) f (by rfl) _ (r1.step ((Stp.refl (fun x => x = g) w1).setCell (p := ⟨g, k, none⟩) (.inl rfl) (.pointer none)) (fun e => by have e : g1 = g := e; omega)) rfl ?_; intro w2 r2 s2))
    have H2 := (h1.free (i := k)).step s2 (fun x hx e => by have := h.low x hx; omega)
    refine bodyPost_ret (retCt srtFl Try.results11 rfl rfl r2 rfl) rfl ⟨rfl, ⟨q, H2⟩, ?_⟩
    exact ((Stp.of_below b1 U).setCell (p := ⟨g, k, none⟩) (.inl h.u) _).next s2 (fun x e => .inr (by omega))
theorem fclose_nil (x : Int) (w : World) :
    Calls Try.prog 11 #[.pointer none, .int .i64 x] w fun e w' => e = .returned (.tuple #[.agg Fl.zero.cs.toArray, .int .i64 1]) ∧ Below w.heap.size w w' := by
  go_enter Try.func11, Try.ntmps11
  go_wp2_with (first
    | (refine at_newFl (by rfl) (by rfl) ?_; intro g1 w1 a1 a2 r1 b1)
    | (go_at_call 26; refine (fat_nil x _).mono ?_; rintro e u ⟨rfl, rfl⟩)
    | (refine at_putFl (by rfl) _ _ (by rfl) g1 (by rfl) Fl.zero (by rfl) _ r1 rfl ?_; intro w2 r2 s2))
  exact bodyPost_ret (retCt srtFl Try.results11 rfl rfl r2 rfl) rfl ⟨rfl, ((Stp.of_below b1 (fun _ => False)).next s2 (fun x e => .inr (by omega))).below (Nat.le_refl _) (fun _ h => h.elim)⟩
theorem fseek_any {w : World} {U : Nat → Prop} {g : Nat} {t : FT} (h : Fd w U g t) (x p : Int) :
    Calls Try.prog 13 #[.pointer (some ⟨g, 0, none⟩), .int .i64 x, .int .i64 p] w fun e w' => e = .returned (.int .i64 (fdSeekE t x p)) ∧ Fd w' U g (fdSeek t x p) ∧ Stp U w w' := by
  obtain ⟨q, h⟩ := h
  cases hh : fdHas t x with
  | none =>
    have e2 : fdSeekE t x p = 46 := by unfold fdSeekE; rw [hh]; rfl
    have e3 : fdSeek t x p = t := by unfold fdSeek; rw [hh]
    rw [e2, e3]
    have hA := fat_no h x hh
    clear e2 e3
    go_enter Try.func13, Try.ntmps13
    go_wp2_with (go_at_call 26; refine hA.mono ?_; rintro e u ⟨rfl, rfl⟩; clear hA)
    go_returns
    exact ⟨rfl, ⟨q, h⟩, Stp.refl _ _⟩
  | some f =>
    obtain ⟨k, hk, rfl⟩ : ∃ k : Nat, k < 8 ∧ x = (k : Int) := by
      unfold fdHas at hh
      split at hh
      · exact ⟨x.toNat, by omega, by omega⟩
      · cases hh
    by_cases hp : p < 0
    · have e2 : fdSeekE t (k : Int) p = 2 := by unfold fdSeekE; rw [hh]; simp [hp]
      have e3 : fdSeek t (k : Int) p = t := by unfold fdSeek; rw [hh]; simp [hp]
      rw [e2, e3]
      rw [fdHas_in hk] at hh
      have hA := fat_yes h k hk hh
      clear e2 e3
      go_enter Try.func13, Try.ntmps13
      go_wp2_with (go_at_call 26; refine hA.mono ?_; rintro e u ⟨rfl, rfl⟩; clear hA)
      go_returns
      exact ⟨rfl, ⟨q, h⟩, Stp.refl _ _⟩
    · have e2 : fdSeekE t (k : Int) p = 0 := by unfold fdSeekE; rw [hh]; simp [hp]
      have e3 : fdSeek t (k : Int) p = fdUp t k (some ⟨f.i, p, f.m⟩) := by unfold fdSeek; rw [hh]; simp [hp]
      rw [e2, e3]
      rw [fdHas_in hk] at hh
      have hA := fat_yes h k hk hh
      obtain ⟨h1, h2, h3⟩ := h.fl k f hk hh
      have c1 := h3.cell 1 _ (show f.cs[1]? = some (.int .i64 f.p) from rfl)
      have f1 := h3.frozen 1
      clear e2 e3
      go_enter Try.func13, Try.ntmps13
      go_wp2_with (go_at_call 26; refine hA.mono ?_; rintro e u ⟨rfl, rfl⟩; clear hA)
      go_returns
      exact ⟨rfl, ⟨q, h.pos hk hh p⟩, (Stp.refl U w).setCell (p := ⟨q k, 1, none⟩) (.inl h1) _⟩
theorem fseek_nil (x p : Int) (w : World) :
    Calls Try.prog 13 #[.pointer none, .int .i64 x, .int .i64 p] w fun e w' => e = .returned (.int .i64 1) ∧ w = w' := by
  go_enter Try.func13, Try.ntmps13
  go_wp2_with (go_at_call 26; refine (fat_nil x _).mono ?_; rintro e u ⟨rfl, rfl⟩)
  go_returns
  exact ⟨rfl, rfl⟩
theorem fopen_nil (x m : Int) (w : World) :
    Calls Try.prog 9 #[.pointer none, .int .i64 x, .int .i64 m] w fun e w' => e = .returned (.tuple #[.int .i64 0, .int .i64 1]) ∧ w = w' := by
  go_enter Try.func9, Try.ntmps9
  go_wp2
  go_returns
  exact ⟨rfl, rfl⟩
theorem fopen_any {w : World} {U : Nat → Prop} {g : Nat} {t : FT} (h : Fd w U g t) (x m : Int) :
    Calls Try.prog 9 #[.pointer (some ⟨g, 0, none⟩), .int .i64 x, .int .i64 m] w fun e w' => e = .returned (.tuple #[.int .i64 (fdOpenN t), .int .i64 (fdOpenE t)]) ∧ FdG U g (fdOpen t x m) w w' := by
  have hF := ffree_any h
  obtain ⟨q, h⟩ := h
  by_cases h8 : fdFr t = 8
  · have e1 : fdOpenN t = 0 := by unfold fdOpenN; rw [if_pos h8]
    have e2 : fdOpenE t = 47 := by unfold fdOpenE; rw [if_pos h8]
    have e3 : fdOpen t x m = t := by unfold fdOpen; rw [if_pos h8]
    rw [e1, e2, e3]
    rw [h8] at hF
    clear e1 e2 e3 h8
    go_enter Try.func9, Try.ntmps9
    go_wp2_with (go_at_call 25; refine hF.mono ?_; rintro e u ⟨rfl, rfl⟩; clear hF)
    go_returns
    exact ⟨rfl, U, ⟨q, h⟩, Stp.refl _ _, Grew.refl _ _ _⟩
  · have e1 : fdOpenN t = (fdFr t : Int) := by unfold fdOpenN; rw [if_neg h8]
    have e2 : fdOpenE t = 0 := by unfold fdOpenE; rw [if_neg h8]
    have e3 : fdOpen t x m = fdUp t (fdFr t) (some ⟨x, 0, m⟩) := by unfold fdOpen; rw [if_neg h8]
    rw [e1, e2, e3]
    have hn := fdFr_none h8
    have hl := fdFr_le t
    generalize fdFr t = k at *
    have hk : k < 8 := by omega
    have a0 : (0 : Int) ≤ (k : Int) := by omega
    have a1 : (k : Int) < 8 := by omega
    have a2 : ¬ (k : Int) = 8 := by omega
    have hgl := h.row.lt
    clear e1 e2 e3 h8 hl
    go_enter Try.func9, Try.ntmps9
    go_wp2_with (first
      | (go_at_call 25; refine hF.mono ?_; rintro e u ⟨rfl, rfl⟩; clear hF)
      | (refine at_boxC 34 (by rfl) _ (by rfl) (Fl.mk x 0 m).cs (by rfl) (Fl.cs_one _) ?_; intro b w1 z1 z2 r1 b1
         have h1 := h.later b1
         have c1 := h1.at0 hk hn
         have f1 := h1.row.fz k))
    go_returns
    have hb : ¬ U b := fun e => by have := h.low b e; omega
    refine ⟨rfl, _, ⟨_, h1.put hk r1 hb⟩, (Stp.of_below b1 U).setCell (p := ⟨g, k, none⟩) (.inl h.u) _, fun y hy => ?_⟩
    rcases hy with e | e
    · exact .inl e
    · exact .inr ⟨by rw [e]; exact z1, by rw [e]; simpa using z2⟩
end Go.Proofs.Ytddglkejegmmmaa
