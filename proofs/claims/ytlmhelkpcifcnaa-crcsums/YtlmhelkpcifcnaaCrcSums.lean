/-
  The statement CrcSums, proved: for every parts the law returns true, and what came in reads as it did; no condition.
-/
import Derived.Test.YtlmhelkpcifcnaaCrcS0
namespace Go.Proofs.Ytlmhelkpcifcnaa.crcSums
open Go.ChangeShapes Go.WideShapes Go.ChangeAt Go.RowKit
set_option linter.unusedVariables false

set_option maxHeartbeats 1000000 in
theorem walk (a0 : Option Addr) (n0 c0 : Nat) (L : List (List Int)) (w : World) (w0 : Bss w a0 n0 c0 L) :
    Calls Try.prog 3 #[.slice a0 n0 c0] w fun e w' => e = .returned (.bool true) ∧ Below w.heap.size w w' := by
  have hle := w0.le
  have hcap := w0.cap
  have hlen := w0.len
  have hby := w0.byte
  unfold maxLen at hcap
  go_enter Try.func3, Try.ntmps3
  go_wp2_with (go_at_call 9; refine (begin_any _).mono ?_; rintro e u1 ⟨rfl, h1⟩)
  have hu : w.heap.size + 2 ≤ u1.heap.size := by have := h1.size; simpa using this
  obtain ⟨g, hg⟩ : ∃ g, g = u1.heap.size := ⟨_, rfl⟩
  rw [← hg]
  have start : Inv w (u1.alloc (Obj.cells #[.int .u32 4294967295, .int .i64 0] 26)) g 0 L w.heap.size 0 (w.heap.size + 1) 0 0 [] := by
    subst hg
    have k1 := keep_below h1 []
    have o3 := (World.ownsRow_made (base := w.heap.size) (e := 23) (size := 1) w #[] 0 (Nat.le_refl _) (Nat.zero_le _) rfl).alloc (Obj.cells #[] 5)
    have o4 := World.ownsRow_made (base := w.heap.size) (e := 5) (size := 1) (w.alloc (Obj.cells #[] 23)) #[] 0 (by simp) (Nat.zero_le _) rfl
    refine ⟨?_, rfl, ?_, ?_, Sm.made u1 _ _, by omega, by omega, by omega, by omega, Pcs.nil _ _⟩
    · exact (bstep (((Below.refl _ w).alloc (Nat.le_refl _) _).alloc (by simp) _) h1 (by simp; omega)).alloc (by omega) _
    · exact own_keep o3 (k1.trans (keep_alloc _ _ _)) (by simp)
    · have := own_keep o4 (k1.trans (keep_alloc u1 (Obj.cells #[.int .u32 4294967295, .int .i64 0] 26) [])) (by simp)
      simpa [cuts] using this
  generalize u1.alloc (Obj.cells #[.int .u32 4294967295, .int .i64 0] 26) = u2 at *
  clear hg hu h1
  go_loopw [3, 4, 6] (fun v3 v4 i wr => ∃ k b3 c3 b4 c4 N : Nat, ∃ vs : List Value, k ≤ n0 ∧ k ≤ 8 ∧ i = .int .i64 k ∧ v3 = .slice (some ⟨b3, 0, none⟩) k c3 ∧ v4 = .slice (some ⟨b4, 0, none⟩) N c4 ∧ Inv w wr g k L b3 c3 b4 c4 N vs) (fun _ _ i _ => 8 - (intOf i).toNat)
  case atStart => exact ⟨0, _, _, _, _, _, _, Nat.zero_le _, Nat.zero_le _, rfl, rfl, rfl, start⟩
  case round =>
    clear start
    obtain ⟨k, b3, c3, b4, c4, N, vs, hk, hk8, rfl, rfl, rfl, hI⟩ := hrel
    by_cases hlt : k < n0 ∧ k < 8
    · obtain ⟨hlt1, hlt2⟩ := hlt
      obtain ⟨b, o, rfl, hc⟩ := (w0.later hI.bel).cell (by omega)
      obtain ⟨x, y, z, e1, e2⟩ := hc k hlt1
      have hS := cuts_succ L k (by omega)
      have hP := cuts_len L k (by omega)
      have hPb := cuts_byte hby k
      have y1 := e2.len
      have y2 := e2.le
      have y3 := e2.cap
      unfold maxLen at y3
      obtain ⟨m, hm, hm', hm2⟩ : ∃ m : Nat, (if (200 : Int) < (y : Int) then (200 : Int) else (y : Int)) = (m : Int) ∧ m ≤ y ∧ m ≤ 200 := ⟨min y 200, by split <;> omega, by omega, by omega⟩
      have hmz : m ≤ z := by omega
      have hmz' : (m : Int) ≤ (z : Int) := by omega
      have hm0 : (0 : Int) ≤ (m : Int) := by omega
      have e3 := e2.take m hm'
      have e4 : (L.getD k []).take m = (L.getD k []).take 200 := by
        by_cases h : 200 < y
        · rw [if_pos (by omega)] at hm; obtain rfl : m = 200 := by omega
          rfl
        · rw [if_neg (by omega)] at hm; obtain rfl : m = y := by omega
          rw [List.take_of_length_le (by omega), List.take_of_length_le (by omega)]
      rw [e4] at e3
      generalize (L.getD k []).take 200 = lk at *
      clear e4 y1 e2 hc
      have hS1 : ∀ w', Below wr.heap.size wr w' → (Below wr.heap.size wr w' ∧ w'.cell? ⟨b, o + k, none⟩ = some (.slice x y z)) := fun w' h => ⟨h, by rw [h.cell (p := ⟨b, o + k, none⟩) (World.block_lt_of_cell? wr ⟨b, o + k, none⟩ e1)]; exact e1⟩
      have HI : Hid (Inv w wr g k L b3 c3 b4 c4 N vs) := hI
      have HS : Hid (cuts L (k + 1) = cuts L k ++ [lk]) := hS
      clear hI hS
      go_wp2_with fail
      go_region_held3 (fun w' => Below wr.heap.size wr w' ∧ w'.cell? ⟨b, o + k, none⟩ = some (.slice x y z)) (exact hS1 _ (by first | exact (Below.refl _ _).drew | exact bnext (And.left (by assumption)) (by assumption) (Nat.le_refl _))) (first
        | (go_at_call 10; refine (bytes_any x m z lk _ (e3.later (And.left (by assumption))) (by omega)).mono ?_; rintro e u3 ⟨gp, cp, rfl, hown, hbel⟩))
      have hI := HI.out
      have hB3 : Below wr.heap.size wr u3 := And.left (by assumption)
      clear hS1
      have hgp := own_lt hown
      have l3 := own_lt hI.own3
      have l4 := own_lt hI.own4
      have p1 := own_keep hI.own3 (keep_below hB3 []) (by simp)
      have p2 := own_keep hI.own4 (keep_below hB3 []) (by simp)
      have hsz3 := hB3.size
      have hszr := hI.bel.size
      simp only [World.drew] at hgp
      obtain ⟨i0, hi0, hi1, hi2, hi3⟩ := info_parts infoU8
      obtain ⟨j0, hj0, hj1, hj2, hj3⟩ := info_parts infoSl
      have q1 := p1.alloc (laid gp m cp)
      have q2 := p2.alloc (laid gp m cp)
      have hn1 : ∀ (j : Nat) (u : Value), [Value.slice (some ⟨gp, 0, none⟩) m cp][j]? = some u → (u3.alloc (laid gp m cp)).cell? ((⟨u3.heap.size, 0, none⟩ : Addr).add j) = some u :=
        World.news_of_block (cs := #[.slice (some ⟨gp, 0, none⟩) m cp]) (heap_alloc_new u3 _)
      have hpb := own_bs' hown e3.byte
      have hpb' := hpb.keep (keep_alloc u3 (laid gp m cp) []) (fun _ _ _ => by simp)
      have hn34 := hI.n34
      have hnum := hI.num
      have hmk := hpb.len
      clear hI p1 p2 e3
      go_wp2_with (first
        | (at_builtin
           refine wpList_append_own_at _ rfl _ _ 22 rfl w.heap.size 23 j0 (.slice none 0 0) 1 24 Try.underlying22 hj0 hj1 hj2 hj3 rfl (by decide) (.slice (some ⟨b3, 0, none⟩) k c3) k vs rfl q1 ⟨u3.heap.size, 0, none⟩ 1 1 [.slice (some ⟨gp, 0, none⟩) m cp] rfl rfl hn1 (by simp [Value.oneCell']) (by unfold maxLen; omega) (by omega) (by simp; omega) ?_
           intro v5 u5 hw1 hw2 hw3 hw4
           obtain ⟨b5, c5, rfl, _⟩ := own_some hw1 (fun h => by have := hw3.1 h; simp at this)
           have hw4' := lies hw4
           have r4 := own_keep q2 (keep_own hw2 [b3] (by simp)) (by simp; omega)
           have rb := hpb'.keep (keep_own hw2 [b3] (by simp)) (by intro ad e _; injection e with e; subst e; simp; omega)
           have hn2 := rb.cells
           clear hw3 hw4)
        | (at_builtin
           refine wpList_append_own_at _ rfl _ _ 23 rfl w.heap.size 5 i0 (.int .u8 0) 1 1 Try.underlying23 hi0 hi1 hi2 hi3 rfl (by decide) (.slice (some ⟨b4, 0, none⟩) N c4) N _ rfl r4 ⟨gp, 0, none⟩ m cp (lk.map (Value.int .u8)) rfl (by simp; omega) hn2 (u8_one lk) (by unfold maxLen; omega) (by omega) (by have := (own_lt r4); omega) ?_
           intro v6 u6 hx1 hx2 hx3 hx4
           obtain ⟨b6, c6, rfl, _⟩ := own_some hx1 (fun h => by have := hx3.1 h; simp at this)
           have hx4' := lies hx4
           obtain ⟨⟨sm6, pb6⟩, hnext⟩ := next HI.out HS.out hB3 hgp.1 hgp.2 hpb hw1 hw2 (by simpa using hw4') hx1 hx2 hx4'
           clear hx3 hx4 hx1 hx2 hx4' hw1 hw2 hw4' r4 rb hn2 hn1 q1 q2 hpb hpb'
           have m1 := sm6.reg
           have m2 := sm6.num
           have m3 := sm6.fr0
           have m4 := sm6.fr1
           have m5 := sm6.lt
           have hL := adds_lt (cuts L k).flatten (r := 4294967295) (by omega) hPb))
      refine (add_any _ _ _ _ _ _ u6 hL pb6 (by omega) (by omega)).mono ?_
      rintro e u7 ⟨rfl, h7⟩
      have hn7 := hnext u7 h7
      have hQ : (cuts L (k + 1)).flatten = (cuts L k).flatten ++ lk := by rw [HS.out, List.flatten_append]; simp
      have hQb := cuts_byte hby (k + 1)
      rw [← adds_append, ← hQ]
      rw [Int.natCast_add] at hn7
      have sm7 := sm6.later h7
      have m1 := sm7.reg
      have m2 := sm7.num
      have m3 := sm7.fr0
      have m4 := sm7.fr1
      have m5 := sm7.lt
      clear hnext hL pb6 hown hbel hB3 hgp hsz3 hQ sm6
      go_wp2_with fail
      have hn8 : ∀ u9, Below ((u7.setCell ⟨g, 0, none⟩ (.int .u32 (adds 4294967295 (cuts L (k + 1)).flatten : Nat))).setCell ⟨g, 1, none⟩ (.int .i64 ((N : Int) + (m : Int)))).heap.size ((u7.setCell ⟨g, 0, none⟩ (.int .u32 (adds 4294967295 (cuts L (k + 1)).flatten : Nat))).setCell ⟨g, 1, none⟩ (.int .i64 ((N : Int) + (m : Int)))) u9 → Inv w u9 g (k + 1) L b5 c5 b6 c6 (N + m) (vs ++ [.slice (some ⟨gp, 0, none⟩) m cp]) := fun u9 h9 => hn7 u9 (by simpa using h9)
      generalize (u7.setCell ⟨g, 0, none⟩ (.int .u32 (adds 4294967295 (cuts L (k + 1)).flatten : Nat))).setCell ⟨g, 1, none⟩ (.int .i64 ((N : Int) + (m : Int))) = u8 at *
      have hI8 := hn8 u8 (Below.refl _ _)
      have hB8 := own_bs' hI8.own4 hQb
      have sm8 := hI8.sm
      rw [Int.natCast_add] at sm8
      have H8 : Hid (∀ u9, Below u8.heap.size u8 u9 → Inv w u9 g (k + 1) L b5 c5 b6 c6 (N + m) (vs ++ [.slice (some ⟨gp, 0, none⟩) m cp])) := hn8
      clear hn7 hn8 hI8 HI HS m1 m2 m3 m4 m5 sm7 h7
      generalize (cuts L (k + 1)).flatten = Q at *
      have hS9 : ∀ w', Below u8.heap.size u8 w' → (Below u8.heap.size u8 w' ∧ w'.cell? ⟨g, 0, none⟩ = some (.int .u32 (adds 4294967295 Q : Nat)) ∧ w'.cell? ⟨g, 1, none⟩ = some (.int .i64 ((N : Int) + (m : Int)))) := fun w' h => ⟨h, (sm8.later h).reg, (sm8.later h).num⟩
      go_region_held3 (fun w' => Below u8.heap.size u8 w' ∧ w'.cell? ⟨g, 0, none⟩ = some (.int .u32 (adds 4294967295 Q : Nat)) ∧ w'.cell? ⟨g, 1, none⟩ = some (.int .i64 ((N : Int) + (m : Int))))
        (first | assumption | exact hS9 _ (Below.refl _ _).drew | exact hS9 _ (bnext (And.left (by assumption)) hbelV (Nat.le_refl _)) | exact hS9 _ (bnext (And.left (by assumption)) hbelL (Nat.le_refl _)))
        (first
        | (go_at_call 12; refine (value_of Q _ _ hQb).mono ?_; rintro e u9 ⟨rfl, hbelV⟩)
        | (go_at_call 13; refine (rof_any _ _ _ Q _ (hB8.later (And.left (by assumption)))).mono ?_; rintro e w' ⟨rfl, rfl⟩)
        | (go_at_call 14; refine (len_any _ _ _).mono ?_; rintro e u10 ⟨rfl, hbelL⟩)
        | (go_at_call 15; refine (radd_any 4294967295 _ _ _ Q _ (by omega) (hB8.later (And.left (by assumption)))).mono ?_; rintro e w' ⟨rfl, rfl⟩))
      have hI10 := H8.out u10 (And.left (by assumption))
      clear hS9 hB8 sm8 hbelV hbelL
      go_wp2_with fail
      go_roundw
      case rel => exact ⟨k + 1, b5, c5, b6, c6, N + m, _, by omega, by omega, by go_num, rfl, rfl, hI10⟩
      case measure => simp [intOf]; omega
    · have hP := cuts_len L k (by omega)
      have hPb := cuts_byte hby k
      have hbss := bss_own hI.own3 hI.pcs
      have hbs := own_bs' hI.own4 hPb
      have hT := hI.bel
      clear hI w0 hby hPb
      generalize cuts L k = C at *
      have hlt' : ¬ (k < n0) ∨ (k < n0 ∧ ¬ k < 8) := by omega
      clear hlt
      rcases hlt' with hlt | ⟨hlt, hlt8⟩
      all_goals
        go_wp2_with fail
        refine (of_any _ _ _ C wr hbss (by omega)).mono ?_
        rintro e u3 ⟨rfl, hT3'⟩
        have hT3 := bnext hT hT3' (Nat.le_refl _)
        have hbs3 := hbs.later hT3'
        go_wp2_with fail
        refine (rof_any _ _ _ _ u3 hbs3).mono ?_
        rintro e w' ⟨rfl, rfl⟩
        go_wp2_with fail
        refine (works_any u3).mono ?_
        rintro e u4 ⟨rfl, hT4'⟩
        have hT4 := bnext hT3 hT4' (Nat.le_refl _)
        go_wp2
        go_returns
        exact ⟨rfl, hT4⟩

theorem own : ownKnob Try.prog.godebug = none := by kernel_rfl
theorem laidOut : laidOutB Try.prog = true := by kernel_rfl
set_option maxRecDepth 100000 in
theorem lifted (os : Os) (started : os.Started) (H : Type) (enc : TypeId × Value → H) :
    ReturnsInHanded {} Try.checked os 3 .any (Rows.crcSumsSpec.pre6 enc Try.prog Try.f3 Rows.crcSumsRow.domain false) (Rows.crcSumsSpec.post enc Try.prog Try.f3 false true false false) := by
  refine returnsInHanded_of_change (C := Try.checked) own started (by kernel_rfl) Try.func3
    (ChangeSpec.witness6 (enc := enc) (C := Try.checked) false ⟨#[], #[.slice none 0 0], []⟩ 8 (by kernel_rfl) (by kernel_rfl) (by kernel_rfl) (by kernel_rfl)) ?_
  intro W base args ds gs before hval0 hW hcnd _
  have hval : ∀ (j : Nat) t v, Try.f3.params[j]? = some t → args[j]? = some v → Value.okWide Try.prog W .any base t v := hval0
  have hW' := hW
  obtain ⟨p, q, hA0, hV, rfl, hfz, hnd⟩ := hW
  have hA : DataW.TrodAll enc Try.prog W 0 (fun _ => true) true Try.f3.params.toList args.toList ds p := hA0
  rw [Try.params3] at hA hval
  obtain ⟨v0, vs0, d0, ds0, p0, q0, hargs, rfl, rfl, h0, r0⟩ := trodAll_cons hA
  obtain ⟨rfl, rfl, rfl⟩ := trodAll_nil r0
  obtain rfl : args = #[v0] := by cases args; simp_all
  obtain ⟨rfl, rfl⟩ := trodVars_none hV
  obtain ⟨a0, len0, cap0, rfl⟩ := okWide_slice Try.underlying22 (hval 0 22 v0 rfl rfl)
  have k0 := h0
  have lt0 : ∀ x ∈ p0, x.block < W.heap.size := by obtain ⟨m, hm⟩ := k0; exact DataW.trod_lt m _ _ _ hm
  obtain ⟨z0, w0⟩ : ∃ zs, Bss W a0 len0 cap0 zs := by
    obtain ⟨fuel, hf⟩ := h0
    rcases Go.Deep.open_int_rows Try.underlying22 Try.underlying23 Try.underlying5 (by kernel_rfl) (by kernel_rfl) hf with ⟨hcs, _⟩ | ⟨x, l, c, A, L, C, Z, hcs, _, hl, hm, _, hcell⟩
    · simp [Value.cells] at hcs
      obtain ⟨rfl, rfl, rfl⟩ := hcs
      exact ⟨[], rfl, Nat.le_refl _, by decide, fun h => absurd h (by omega)⟩
    · simp [Value.cells] at hcs
      obtain ⟨rfl, rfl, rfl⟩ := hcs
      exact ⟨_, bss_open hl hm hcell⟩
  clear hA0 hval0
  refine (walk a0 len0 cap0 z0 W w0).mono fun e W' ⟨he, bel⟩ => ?_
  subst he
  exact ⟨_, rfl, _, _, _, [], _, [], hW', trodAll_mk1 (shut_bool Try.underlying4 _), (trodAll_cons_mk (Below.trod laidOut (by kernel_rfl) (of_decide_eq_true (by kernel_rfl)) k0 bel lt0) trodAll_mk0), rfl, bel.frame _, fun h => by cases h⟩
theorem over : Rows.crcSumsRow.holds Try.pinned (OpenSpec.ofChange Rows.crcSumsSpec) :=
  OpenClaim.holds_of_wide 3 Try.f3 rfl rfl rfl rfl rfl rfl rfl ⟨rfl, rfl, rfl, rfl, rfl⟩ rfl rfl rfl rfl rfl (by kernel_rfl) Try.func3 (by kernel_rfl)
    (of_decide_eq_true (by kernel_rfl)) (by unfold Func.isWrapper; first | (rw [if_pos (by decide +kernel)]; kernel_rfl) | (rw [if_neg (by decide +kernel)]; exact ⟨rfl, rfl⟩))
    (fun os started H enc _ => lifted os started H enc)
end Go.Proofs.Ytlmhelkpcifcnaa.crcSums
namespace Go.Proofs.Ytlmhelkpcifcnaa
/-- The statement. -/
theorem crcSums_holds : Rows.CrcSumsSaid := crcSums.over
#print axioms crcSums_holds
end Go.Proofs.Ytlmhelkpcifcnaa
