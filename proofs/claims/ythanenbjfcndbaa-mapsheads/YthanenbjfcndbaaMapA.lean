/-
  What spans, mapOf and bits of layer 9, and the document's bit, return, for every input: no statement is proved here.
-/
import Derived.Test.YthanenbjfcndbaaCsA
import Derived.Test.YthanenbjfcndbaaMapM
import Derived.Test.YthanenbjfcndbaaNumI
namespace Go.Proofs.Ythanenbjfcndbaa
open Go.ChangeShapes Go.WideShapes Go.ChangeAt Go.RowKit
set_option linter.unusedVariables false

theorem sA_lt (k : Int) : sA k < 54 := by unfold sA; split <;> omega
/-- A span's cells: where it begins, how long it is. -/
abbrev spc (a n : Int) : List Value := [.int .i64 a, .int .i64 n]
theorem spc_one (a n : Int) : ∀ v ∈ spc a n, v.oneCell' = true := by
  intro v hv; simp only [List.mem_cons, List.not_mem_nil, or_false] at hv
  rcases hv with rfl | rfl <;> rfl
theorem srtS : Srt 50 2 (spc 0 0) :=
  ⟨⟨_, Try.underlying50, rfl⟩, by kernel_rfl, fun w => (zero_of_info (v := .agg (spc 0 0).toArray) (n := 2) (by kernel_rfl)).1 w, rfl, spc_one 0 0⟩
theorem zSp (w : World) : (zeroValue 50).run Try.prog w = .ok (.agg (spc 0 0).toArray) w := srtS.zero w
theorem uSpM : Try.prog.underlying 62 = some (.map 3 50) := by kernel_rfl
/-- Both maps, by their kinds. -/
def spF : Int → Option Value := upd (upd (fun _ => none) 0 (some (.agg (spc 0 16).toArray))) 4 (some (.agg (spc 16 3).toArray))
theorem spF_get (k : Int) : (spF k).getD (.agg (spc 0 0).toArray) = .agg (spc (sA k) (sZ k)).toArray := by
  unfold spF upd sA sZ
  by_cases h4 : k = 4
  · simp [h4]
  · by_cases h0 : k = 0
    · simp [h0]
    · simp [h4, h0]
theorem spF_is (k : Int) : (spF k).isSome = decide (k = 0 ∨ k = 4) := by
  unfold spF upd
  by_cases h4 : k = 4
  · simp [h4]
  · by_cases h0 : k = 0
    · simp [h0]
    · simp [h4, h0]
theorem of_upd0 {v : Value} {k : Int} (h : (upd (fun _ => none) 0 (some v) k).isSome = true) : 0 ≤ k ∧ k < 2048 := by
  unfold upd at h
  by_cases e : k = 0
  · omega
  · simp [e] at h
set_option maxRecDepth 100000 in
set_option maxHeartbeats 1000000 in
theorem spans_any (w : World) : Calls Try.prog 38 #[] w fun e w' => ∃ b, e = .returned (.map (some b)) ∧ MpI Try.prog 3 w' b spF ∧ Below w.heap.size w w' := by
  have t1 : True := trivial
  go_enter Try.func38, Try.ntmps38
  go_wp2_with (first
    | (refine at_makeM 62 (by rfl) (by rfl) ?_; intro b w1 hb m1 b1)
    | (have _t := t1; refine at_insM 62 50 uSpM (by rfl) _ _ _ (by rfl) b _ (by rfl) 0 (by rfl) (.agg (spc 0 16).toArray) (by rfl) m1 (fun _ h => by simp at h) (by decide) ?_; intro w2 m2 s2; clear _t t1)
    | (refine at_insM 62 50 uSpM (by rfl) _ _ _ (by rfl) b _ (by rfl) 4 (by rfl) (.agg (spc 16 3).toArray) (by rfl) m2 (fun k h => of_upd0 h) (by decide) ?_; intro w3 m3 s3))
  go_returns
  have S1 : Stp (fun x => w.heap.size ≤ x) w w1 := Stp.of_below b1 _
  have S2 := S1.next s2 (fun x hx => .inl (by subst hx; exact hb))
  have S3 := S2.next s3 (fun x hx => .inl (by subst hx; exact hb))
  exact ⟨b, rfl, m3, S3.below (Nat.le_refl _) (fun _ h => h)⟩
/-- How a place is one, or is none. -/
theorem plc_ways (k i : Int) : (decide (k = 0 ∨ k = 4) = false ∧ mE k i = 2) ∨ (decide (k = 0 ∨ k = 4) = true ∧ i < 0 ∧ mE k i = 2) ∨ (decide (k = 0 ∨ k = 4) = true ∧ ¬ i < 0 ∧ i ≥ (sZ k : Int) * 8 ∧ mE k i = 2) ∨ (decide (k = 0 ∨ k = 4) = true ∧ ¬ i < 0 ∧ ¬ i ≥ (sZ k : Int) * 8 ∧ mE k i = 0 ∧ plc k i) := by
  by_cases h : k = 0 ∨ k = 4
  · right
    by_cases h0 : i < 0
    · exact .inl ⟨by simp [h], h0, if_neg (by unfold plc; omega)⟩
    · by_cases h1 : i ≥ (sZ k : Int) * 8
      · exact .inr (.inl ⟨by simp [h], h0, h1, if_neg (fun e => by have := (plc_z e).2.2; omega)⟩)
      · have hp : plc k i := plc_of (by omega) (by omega)
        exact .inr (.inr ⟨by simp [h], h0, h1, if_pos hp, hp⟩)
  · left
    exact ⟨by simp; omega, if_neg (by unfold plc; omega)⟩
def mA (k i : Int) : Int := if plc k i then (sA k : Int) else 0
def mZ (k i : Int) : Int := if plc k i then (sZ k : Int) else 0
theorem not_plc {k i : Int} (h : mE k i = 2) : mA k i = 0 ∧ mZ k i = 0 := by
  have : ¬ plc k i := fun e => by unfold mE at h; rw [if_pos e] at h; omega
  unfold mA mZ; rw [if_neg this, if_neg this]; exact ⟨rfl, rfl⟩
theorem is_plc {k i : Int} (h : plc k i) : mA k i = sA k ∧ mZ k i = sZ k := by unfold mA mZ; rw [if_pos h, if_pos h]; exact ⟨rfl, rfl⟩
set_option maxRecDepth 100000 in
set_option maxHeartbeats 2000000 in
theorem mapOf_any (k i : Int) (w : World) (hk : (Lit.int .i64 k).wf = true) :
    Calls Try.prog 27 #[.int .i64 k, .int .i64 i] w fun e w' => e = .returned (.tuple #[.agg (spc (mA k i) (mZ k i)).toArray, .int .i64 (mE k i)]) ∧ Below w.heap.size w w' := by
  have hway := plc_ways k i
  have hz : sZ k ≤ 16 := by have := s_le k; unfold sZ; split <;> try omega
                            split <;> omega
  have hget := spF_get k
  have his := spF_is k
  have hs1 := spc_one (sA k) (sZ k)
  generalize hd : decide (k = 0 ∨ k = 4) = dd at hway his
  clear hd
  rcases hway with ⟨rfl, hE⟩ | ⟨rfl, h0, hE⟩ | ⟨rfl, h0, h1, hE⟩ | ⟨rfl, h0, h1, hE, hp⟩
  all_goals
    have t1 : True := trivial
    have hE' : Hid (mE k i = _) := hE
    clear hE
    go_enter Try.func27, Try.ntmps27
    go_wp2_with (first
      | (have _t := t1; refine at_newC 50 2 (spc 0 0) srtS (by rfl) (by rfl) ?_; intro gr w1 a1 z1 r1 b1; clear _t t1)
      | (go_at_call 38; refine (spans_any _).mono ?_; rintro e w2 ⟨b, rfl, m2, b2⟩)
      | (refine at_look2 62 50 uSpM _ zSp (by rfl) _ _ (by rfl) b spF (by rfl) m2 k (by rfl) hk ?_; rw [hget, his])
      | (refine at_newC 50 2 (spc 0 0) srtS (by rfl) (by rfl) ?_; intro gs w3 a3 z3 r3 b3)
      | (refine at_putC 50 2 (spc 0 0) srtS (by rfl) _ _ (by rfl) gs (by rfl) (spc (sA k) (sZ k)) (by rfl) rfl hs1 _ r3 rfl ?_; intro w4 r4 s4
         have c1 := r4.cell 1 _ rfl
         have rr : Cs w4 gr (spc 0 0) := ((r1.later b2).later b3).step s4 (by have := r1.lt; have := b2.size; omega)
         have S4 : Stp (fun x => w.heap.size ≤ x) w w4 := (Stp.of_below (bnext (bnext b1 b2 (Nat.le_refl _)) b3 (Nat.le_refl _)) (fun x => w.heap.size ≤ x)).next s4 (fun x hx => .inl (by subst hx; have := b1.size; have := b2.size; omega)))
      | (refine at_getC 50 2 (spc 0 0) srtS (by rfl) _ (by rfl) gs (by rfl) _ r4 rfl ?_)
      | (refine at_putC 50 2 (spc 0 0) srtS (by rfl) _ _ (by rfl) gr (by rfl) (spc 0 0) (by rfl) rfl (spc_one 0 0) _ rr rfl ?_; intro w5 r5 s5)
      | (refine at_putC 50 2 (spc 0 0) srtS (by rfl) _ _ (by rfl) gr (by rfl) (spc (sA k) (sZ k)) (by rfl) rfl hs1 _ rr rfl ?_; intro w5 r5 s5))
    have S5 := S4.next s5 (fun x hx => .inl (by subst hx; exact a1))
    refine bodyPost_ret (retCt srtS Try.results27 rfl rfl r5 rfl) rfl ⟨?_, S5.below (Nat.le_refl _) (fun _ h => h)⟩
  all_goals first
    | (obtain ⟨e1, e2⟩ := not_plc hE'.out; rw [hE'.out, e1, e2]; rfl)
    | (obtain ⟨e1, e2⟩ := is_plc hp; rw [hE'.out, e1, e2]; rfl)
set_option maxRecDepth 100000 in
set_option maxHeartbeats 1000000 in
theorem bits_any (k : Int) (a n : Int) (p : Ld) (w : World) (ha : a = sA k) (hn : n = sZ k) :
    Calls Try.prog 29 #[.agg (spc a n).toArray, .agg p.cs.toArray] w fun e w' => ∃ x c, e = .returned (.slice x (sZ k) c) ∧ Bs w' x (sZ k) c (ints (mS p k)) ∧ Below w.heap.size w w' := by
  subst ha; subst hn
  have hs1 := spc_one (sA k) (sZ k)
  have hp := p.len
  have hle := s_le k
  have hlt := sA_lt k
  go_enter Try.func29, Try.ntmps29
  go_wp2_with (first
    | (refine at_boxC 50 (by rfl) _ (by rfl) (spc (sA k) (sZ k)) (by rfl) hs1 ?_; intro g1 w1 a1 z1 r1 b1)
    | (refine at_box 23 54 arrL (by rfl) _ (by rfl) p.l (by rfl) hp ?_; intro g2 w2 a2 z2 r2 b2
       have c0 := (r1.later b2).cell 0 _ rfl
       have c1 := (r1.later b2).cell 1 _ rfl
       have q := fun w => run_subA arrL w g2 (sA k) (sZ k) hle hlt _ rfl))
  go_returns
  exact ⟨_, _, rfl, r2.bs (sA k) (sZ k) (54 - sA k) (by omega) (by omega) (by unfold maxLen; omega), bnext b1 b2 (Nat.le_refl _)⟩
set_option maxHeartbeats 1000000 in
theorem rbitOf_any (k i : Int) (w : World) (hi : (Lit.int .i64 i).wf = true) :
    Calls Try.prog 30 #[.int .i64 k, .int .i64 i] w fun e w' => e = .returned (.tuple #[.int .i64 (if plc k i then (pb k i : Int) else 0), .bool (decide (plc k i))]) ∧ w = w' := by
  have r := bounds_i64 hi
  by_cases h : plc k i
  · rw [if_pos h, decide_eq_true h]
    rcases h with ⟨rfl, h0, h1⟩ | ⟨rfl, h0, h1⟩
    · have e : Hid ((pb 0 i : Int) = i) := by show _ = _; unfold pb sA; simp; omega
      go_enter Try.func30, Try.ntmps30
      go_wp2
      go_returns
      exact ⟨by rw [e.out]; rfl, rfl⟩
    · have e : Hid ((pb 4 i : Int) = 128 + i) := by show _ = _; unfold pb sA; simp; omega
      go_enter Try.func30, Try.ntmps30
      go_wp2
      go_returns
      exact ⟨by rw [e.out]; rfl, rfl⟩
  · rw [if_neg h, decide_eq_false h]
    have hw : (¬ k = 0 ∧ ¬ k = 4) ∨ (k = 0 ∧ i < 0) ∨ (k = 0 ∧ 0 ≤ i ∧ ¬ i < 128) ∨ (k = 4 ∧ i < 0) ∨ (k = 4 ∧ 0 ≤ i ∧ ¬ i < 24) := by unfold plc at h; omega
    clear h
    rcases hw with ⟨h0, h1⟩ | ⟨rfl, h0⟩ | ⟨rfl, h0, h1⟩ | ⟨rfl, h0⟩ | ⟨rfl, h0, h1⟩
    all_goals
      go_enter Try.func30, Try.ntmps30
      go_wp2
      go_returns
      exact ⟨rfl, rfl⟩
section
variable {ops : Array Oper} {o : Oper} {a : Act} {w : World} {S : World → Prop} {K : Act → World → Prop} {Q : Exit → Act → World → Prop} {E : Prop}
theorem yields_sp (k : Int) (hk : (Lit.int .i64 k).wf = true) (hw : Region.wanted o (yielded ops a.tmps) = true) (m x : Operand) (ho : o.op = .lookup 62 m x false) (b : Nat) (hm : a.eval m = .map (some b)) (hx : a.eval x = .int .i64 k) (hS : ∀ w, S w → MpI Try.prog 3 w b spF) :
    YieldsIf Try.prog ops S o (.agg (spc (sA k) (sZ k)).toArray) a := by
  rw [← spF_get k]
  exact yields_M 62 50 uSpM _ zSp hw m x ho b spF hm k hx hk hS
theorem step_sp (k : Int) (hk : (Lit.int .i64 k).wf = true) (hgd : o.guard = none) (m x : Operand) (ho : o.op = .lookup 62 m x false) (b : Nat) (hm : a.eval m = .map (some b)) (hx : a.eval x = .int .i64 k) (hM : MpI Try.prog 3 w b spF)
    (h : K (a.put o.dst (.agg (spc (sA k) (sZ k)).toArray)) w) : if Region.wanted o (yielded ops a.tmps) = true then Oper.wp Try.prog o a w K Q else E := by
  have hw : Region.wanted o (yielded ops a.tmps) = true := by simp [Region.wanted, hgd]
  rw [if_pos hw]
  have hr : (execOp a.eval o).run Try.prog w = .ok (.value (.agg (spc (sA k) (sZ k)).toArray)) w := by
    rw [← spF_get k]
    simp [execOp, ho, hm, hx, hM.look uIntC uSpM (zSp w) hk]
  unfold Oper.wp
  rw [hr]
  exact h
end
end Go.Proofs.Ythanenbjfcndbaa
