/-
  The statement PathLast, proved: for every text the law returns true; no condition.
-/
import Derived.Test.YtadeocphkihamaaPaW
namespace Go.Proofs.Ytadeocphkihamaa.pathLast
open Go.ChangeShapes Go.WideShapes Go.ChangeAt Go.RowKit
set_option linter.unusedVariables false

set_option maxRecDepth 100000 in
set_option maxHeartbeats 4000000 in
theorem walk (l : List UInt8) (w : World) : Calls Try.prog 6 #[.string (str l)] w fun e w' => e = .returned (.bool true) ∧ Below w.heap.size w w' := by
  have hz := str_size l
  obtain ⟨hm1, hm2, hm3, hm4, hm5⟩ := cut400 l
  have hcut := str_cut l (min l.length 400)
  generalize min l.length 400 = m at *
  generalize l.take m = s at *
  have hs : s.length ≤ 5000 := by omega
  have H3 := fun w => last_anyP s w hs
  have H4 := fun w => rlast_any s w hs
  have hM : Hid ((lsN s).length ≤ 16) := by have := spN_len s; show _ ≤ _; unfold lsN; simp; omega
  have hLJ : Hid (lsE s = 0 → jS (lsN s ++ [lsS s]) = s ∧ jE (lsN s ++ [lsS s]) = 0) := fun h => by
    obtain ⟨h1, h2, h3⟩ := last_join h
    have := join_split h1
    rw [h3]; exact ⟨this.2, this.1⟩
  unfold LaR at H3 H4
  generalize lsN s = M at *
  generalize lsE s = F at *
  generalize lsS s = T at *
  have tT := str_list T
  have ts := str_list s
  by_cases hF : F = 0
  · subst hF
    have hX := hLJ.out rfl
    obtain ⟨ML, hML⟩ : ∃ ML, Hid (M ++ [T] = ML) := ⟨_, rfl⟩
    rw [hML.out] at hX
    have hMLl : Hid (ML.length ≤ 17) := by show _ ≤ _; rw [← hML.out, List.length_append]; have := hM.out; simp; omega
    have hXS : Hid (jS ML = s) := hX.1
    have hXE : Hid (jE ML = 0) := hX.2
    clear hX hLJ
    go_enter Try.func6, Try.ntmps6
    go_wp2_with (first
      | (go_at_call 10; refine (H3 _).mono ?_; rintro e w3 ⟨⟨a3, n3, c3, rfl, s3⟩, b3⟩)
      | (go_at_call 11; refine (H4 _).mono ?_; rintro e w4 ⟨⟨a4, n4, c4, rfl, s4⟩, b4⟩; have p3 := s3.later b4; have B4 := bnext b3 b4 (Nat.le_refl _); have HT := sameT_any p3 s4 (by have := hM.out; omega))
      | (go_at_call 12; refine HT.mono ?_; rintro e w6 ⟨rfl, b6⟩; have B6 := bnext B4 b6 (Nat.le_refl _); have p6 := p3.later b6)
      | (refine at_bs0T (B := w6.heap.size) (by rfl) (by rfl) (Nat.le_refl _) ?_; intro g7 w7 o7 b7; have p7 := p6.later b7; have hn7 : Hid (n3 ≤ 16) := by { have := p7.len; have := hM.out; show _ ≤ _; omega })
      | (refine at_appT w6.heap.size rfl _ _ (by rfl) (by rfl) o7 a3 n3 c3 (by rfl) p7 (by have := hn7.out; simp; omega) b7.size ?_; intro v8 w8 o8 k8; clear o7
         have b8 := ((Stp.of_below b7 (fun x => w6.heap.size ≤ x)).next k8 (fun _ h => .inl h)).below (Nat.le_refl _) (fun _ h => h))
      | (refine at_bsT (by rfl) _ (by rfl) T (by rfl) ?_; intro g9 w9 e9 s9 b9; have o9 := o8.later b9; have b9' := bnext b8 b9 (Nat.le_refl _))
      | (refine at_appT w6.heap.size rfl _ _ (by rfl) (by rfl) o9 _ 1 1 (by rfl) s9 (by have := hM.out; simp; omega) b9'.size ?_; intro v10 w10 o10 k10
         have b10 := ((Stp.of_below b9' (fun x => w6.heap.size ≤ x)).next k10 (fun _ h => .inl h)).below (Nat.le_refl _) (fun _ h => h)
         rw [List.nil_append, hML.out] at o10
         obtain ⟨a10, c10, rfl, s10, _⟩ := o10.shape
         have B10 := bnext B6 b10 (Nat.le_refl _)
         have HJ := join_anyP s10 (by have := hMLl.out; omega)
         rw [hXS.out, hXE.out] at HJ)
      | (go_at_call 15; refine HJ.mono ?_; rintro e w11 ⟨rfl, b11⟩; have B11 := bnext B10 b11 (Nat.le_refl _))
      | (go_at_call 13; refine (works23_any _).mono ?_; rintro e w12 ⟨rfl, b12⟩; have B12 := bnext B11 b12 (Nat.le_refl _)))
    go_returns
    exact ⟨by simp, B12⟩
  · go_enter Try.func6, Try.ntmps6
    go_wp2_with (first
      | (go_at_call 10; refine (H3 _).mono ?_; rintro e w3 ⟨⟨a3, n3, c3, rfl, s3⟩, b3⟩)
      | (go_at_call 11; refine (H4 _).mono ?_; rintro e w4 ⟨⟨a4, n4, c4, rfl, s4⟩, b4⟩; have p3 := s3.later b4; have B4 := bnext b3 b4 (Nat.le_refl _); have HT := sameT_any p3 s4 (by have := hM.out; omega))
      | (go_at_call 12; refine HT.mono ?_; rintro e w6 ⟨rfl, b6⟩; have B6 := bnext B4 b6 (Nat.le_refl _))
      | (go_at_call 13; refine (works23_any _).mono ?_; rintro e w12 ⟨rfl, b12⟩; have B12 := bnext B6 b12 (Nat.le_refl _)))
    go_returns
    exact ⟨rfl, B12⟩
theorem own : ownKnob Try.prog.godebug = none := by kernel_rfl
theorem laidOut : laidOutB Try.prog = true := by kernel_rfl
set_option maxRecDepth 100000 in
theorem lifted (os : Os) (started : os.Started) (H : Type) (enc : TypeId × Value → H) :
    ReturnsInHanded {} Try.checked os 6 .any (Rows.pathLastSpec.pre6 enc Try.prog Try.f6 Rows.pathLastRow.domain false) (Rows.pathLastSpec.post enc Try.prog Try.f6 false true false false) := by
  refine returnsInHanded_of_change (C := Try.checked) own started (by kernel_rfl) Try.func6
    (ChangeSpec.witness6 (enc := enc) (C := Try.checked) false ⟨#[], #[.string ByteArray.empty], []⟩ 8 (by kernel_rfl) (by kernel_rfl) (by kernel_rfl) (by kernel_rfl)) ?_
  intro W base args ds gs before hval0 hW hcnd _
  have hval : ∀ (j : Nat) t v, Try.f6.params[j]? = some t → args[j]? = some v → Value.okWide Try.prog W .any base t v := hval0
  have hW' := hW
  obtain ⟨p, q, hA0, hV, rfl, hfz, hnd⟩ := hW
  have hA : DataW.TrodAll enc Try.prog W 0 (fun _ => true) true Try.f6.params.toList args.toList ds p := hA0
  rw [Try.params6] at hA hval
  obtain ⟨v0, vs0, d0, ds0, p0, q0, hargs, rfl, rfl, h0, r0⟩ := trodAll_cons hA
  obtain ⟨rfl, rfl, rfl⟩ := trodAll_nil r0
  obtain rfl : args = #[v0] := by cases args; simp_all
  obtain ⟨rfl, rfl⟩ := trodVars_none hV
  obtain ⟨t0, rfl, rfl, rfl, hs0⟩ := Go.ChangeMaps.open_string Try.underlying9 (hval 0 9 v0 rfl rfl) h0
  obtain ⟨s0, rfl⟩ : ∃ l, t0 = str l := ⟨_, str_of t0⟩
  clear hA0 hval0
  refine (walk s0 W ).mono fun e W' ⟨he, bel⟩ => ?_
  subst he
  exact ⟨_, rfl, _, _, _, [], _, [], hW', trodAll_mk1 (shut_bool Try.underlying4 _), (trodAll_cons_mk (Go.ChangeMaps.shut_string Try.underlying9 hs0) trodAll_mk0), rfl, bel.frame _, fun h => by cases h⟩
theorem over : Rows.pathLastRow.holds Try.pinned (OpenSpec.ofChange Rows.pathLastSpec) :=
  OpenClaim.holds_of_wide 6 Try.f6 rfl rfl rfl rfl rfl rfl rfl ⟨rfl, rfl, rfl, rfl, rfl⟩ rfl rfl rfl rfl rfl (by kernel_rfl) Try.func6 (by kernel_rfl)
    (of_decide_eq_true (by kernel_rfl)) (by unfold Func.isWrapper; first | (rw [if_pos (by decide +kernel)]; kernel_rfl) | (rw [if_neg (by decide +kernel)]; exact ⟨rfl, rfl⟩))
    (fun os started H enc _ => lifted os started H enc)
end Go.Proofs.Ytadeocphkihamaa.pathLast
namespace Go.Proofs.Ytadeocphkihamaa
/-- The statement. -/
theorem pathLast_holds : Rows.PathLastSaid := pathLast.over
#print axioms pathLast_holds
end Go.Proofs.Ytadeocphkihamaa
