/-
  What hold, Get, Put, Force, Pin and Unpin of layer 13 do: no statement is proved here.
-/
import Derived.Test.YtecedklfdmbnpaaCacE
namespace Go.Proofs.Ytecedklfdmbnpaa
open Go.ChangeShapes Go.WideShapes Go.ChangeAt Go.RowKit
set_option linter.unusedVariables false
set_option linter.unusedSimpArgs false

/-- From w to w' the cache, its disk and its supply came to Z'. -/
def To (gc g mp : Nat) (sp : Value) (E F G : Nat → Prop) (Z' : CZ) (w w' : World) : Prop := ∃ ov' f' E' F', Cx w' gc g sp Z' mp ov' f' E' F' G ∧ Stp (Al E F G) w w' ∧ Grew E E' w w' ∧ Grew F F' w w'
section
variable {w w1 w' : World} {gc g mp : Nat} {sp ov : Value} {Z Z' : CZ} {f : Int → Option Value} {E F G : Nat → Prop}
theorem Grew.pre {F F' : Nat → Prop} (h : Grew F F' w1 w') (b : w.heap.size ≤ w1.heap.size) : Grew F F' w w' := fun x hx => by
  rcases h x hx with e | e
  · exact .inl e
  · exact .inr ⟨Nat.le_trans b e.1, e.2⟩
theorem Cx.here (H : Cx w' gc g sp Z mp ov f E F G) (k : Stp (Al E F G) w w') : To gc g mp sp E F G Z w w' := ⟨ov, f, E, F, H, k, Grew.refl _ _ _, Grew.refl _ _ _⟩
theorem To.pre (h : To gc g mp sp E F G Z' w1 w') (b : Below w.heap.size w w1) : To gc g mp sp E F G Z' w w' := by
  obtain ⟨ov', f', E', F', h1, h2, h3, h4⟩ := h
  exact ⟨ov', f', E', F', h1, (Stp.of_below b _).trans h2, h3.pre b.size, h4.pre b.size⟩
theorem Cx.far (H : Cx w gc g sp Z mp ov f E F G) (x : Nat) (hx : w.heap.size ≤ x) : ¬ Al E F G x := fun e => by
  rcases e with e | e | e
  · have := H.cm.lt x e; omega
  · have := H.dd.d.lt x e; omega
  · have := H.dd.gl x e; omega
end
theorem hd_set {l r : El} {i : Int} {q : Pg} (hl : l = (i, q) :: r) (hn : (keys l).Nodup) (u : Pg → Pg) : hdU u l = stP l i (u q) := by
  subst hl
  rw [keys_cons, List.nodup_cons] at hn
  unfold hdU stP
  rw [List.map_cons]
  simp only [if_true]
  congr 1
  have : ∀ e ∈ r, (if e.1 = i then (i, u q) else e) = e := fun e he => if_neg (fun e1 => hn.1 (by rw [← e1]; exact List.mem_map_of_mem (f := (·.1)) he))
  rw [List.map_congr_left this]; simp
theorem fnd_head {l r : El} {i : Int} {q : Pg} (hl : l = (i, q) :: r) : fnd l i = some q := by
  subst hl; unfold fnd; simp
set_option maxRecDepth 100000 in
set_option maxHeartbeats 2000000 in
theorem hold_any {w : World} {gc g mp : Nat} {sp ov : Value} {Z : CZ} {f : Int → Option Value} {E F G : Nat → Prop} {t : Nat} (H : Cx w gc g sp Z mp ov f E F G) (ok : Z.ok t) (ht : t ≤ 10000) (i : Int) (hwi : (Lit.int .i64 i).wf = true) :
    Calls Try.prog 49 #[.pointer (some ⟨gc, 0, none⟩), .int .i64 i] w fun e w' => ∃ ov' f' E' F', e = .returned (.tuple #[hp (Z.holdE i) (f' i), .int .i64 (Z.holdE i)]) ∧ Cx w' gc g sp (Z.hold i) mp ov' f' E' F' G ∧ Stp (Al E F G) w w' ∧ Grew E E' w w' ∧ Grew F F' w w' := by
  have hfi := find_any H.cm i hwi
  cases hq : fnd Z.l i with
  | none =>
    have e3 : pgE (fnd Z.l) i = 5 := by unfold pgE; rw [hq]
    rw [e3, H.cm.no i hq] at hfi; clear e3
    have hB := bring_any H ok ht i hwi hq
    go_enter Try.func49, Try.ntmps49
    go_wp2_with (first
      | (go_at_call 51; refine hfi.mono ?_; rintro e w1 ⟨rfl, rfl⟩)
      | (go_at_call 58; refine hB.mono ?_; rintro e w1 ⟨ov1, f1, E1, F1, rfl, H1, s1, g1, g2⟩))
    go_returns
    exact ⟨ov1, f1, E1, F1, rfl, H1, s1, g1, g2⟩
  | some q =>
    obtain ⟨r, hf, hE, hc⟩ := H.page hq
    have hi : Z.d.inn i := ok.inn _ (fnd_mem hq)
    have hki : i ∈ keys Z.l := mem_key (fnd_mem hq)
    have e3 : pgE (fnd Z.l) i = 0 := by unfold pgE; rw [hq]
    rw [e3, hf] at hfi; clear e3
    have e1 : Z.holdE i = 0 := by unfold CZ.holdE; rw [if_pos hi, hq]
    have e2 : Z.hold i = Z.hit i q := by unfold CZ.hold; rw [if_pos hi, hq]
    rw [e1, e2]; clear e1 e2
    obtain ⟨y0, y1, y2, y3, y4, y5⟩ := H.cm.cells
    have v4 := H.cm.c.frozen 4
    have h1 := H.cm.hit (wrap64 (Z.h + 1))
    have z3 := h1.c.cell 3 _ rfl
    have hkl : (keys Z.l).length ≤ 64 := by rw [keys_len]; have := ok.len; have := ok.n2; omega
    obtain ⟨a0, n0, c0, hov⟩ := H.cm.ow.shape
    subst hov
    go_enter Try.func49, Try.ntmps49
    go_wp2_with (first
      | (go_at_call 51; refine hfi.mono ?_; rintro e w1 ⟨rfl, rfl⟩)
      | (go_at_call 59; refine (index_own h1.ow i (by omega) hki).mono ?_; rintro e w1 ⟨⟨k, hk, rfl, her⟩, rfl⟩
         have a3 : IntKind.i64.wrap ((k : Int) + 1) = (k : Int) + 1 := by rw [IntKind.wrap_i64]; omega)
      | (go_at_call 61; refine (delete_own h1.ow k hk).mono ?_; rintro e w2 ⟨ov1, rfl, o2, b2, s2⟩
         rw [her] at o2
         have o2' := o2.later ((Below.refl _ w2).alloc (Nat.le_refl _) (.cells #[.int .i64 i] 3)))
      | (go_at_call 60; refine (insert_own o2' i w2.heap.size (heap_alloc_new w2 _) (fun e => by have := o2.lt e; omega) (by have := List.length_erase_le (a := i) (l := keys Z.l); omega)).mono ?_; rintro e w3 ⟨ov2, rfl, o3, b3, s3⟩
         have c3 := ((h1.c.step s2 (fun e => (h1.eo gc e).2 rfl)).later ((Below.refl _ w2).alloc (Nat.le_refl _) (.cells #[.int .i64 i] 3))).step s3 (fun e => (h1.eo gc (by rw [← b2]; exact e)).2 rfl)
         have q3 := c3.cell 3 _ rfl
         have f3 := c3.frozen 3
         obtain ⟨a10, n10, c10, hov10⟩ := o3.shape
         subst hov10))
    go_returns
    obtain ⟨E', H5, s5, g5⟩ := H.hit ok.nd hq _ rfl s2 b2 s3 o3 b3
    exact ⟨_, f, E', F, by rw [hp0, hf]; rfl, H5, Al.left s5, g5, Grew.refl _ _ _⟩
theorem hold_nil (i : Int) (w : World) : Calls Try.prog 49 #[.pointer none, .int .i64 i] w fun e w' => e = .returned (.tuple #[.pointer none, .int .i64 1]) ∧ w = w' := by
  have hfi := find_nil i w
  go_enter Try.func49, Try.ntmps49
  go_wp2_with (go_at_call 51; refine hfi.mono ?_; rintro e w1 ⟨rfl, rfl⟩)
  go_returns
  exact ⟨rfl, rfl⟩
end Go.Proofs.Ytecedklfdmbnpaa
