/-
  Shades of layer 14: no statement is proved here.
-/
import Derived.Test.YtdfifneikmlmoaaGreatGrE
namespace Go.Proofs.YtdfifneikmlmoaaGreat
open Go.ChangeShapes Go.WideShapes Go.ChangeAt Go.RowKit
set_option linter.unusedVariables false
set_option linter.unusedSimpArgs false

/-- The bits of a patch's bytes, and of its kind. -/
def bo (p : Pt) : Nat := (2 ^ p.data.length - 1) * 2 ^ p.off.toNat
def ko (p : Pt) : Nat := 2 ^ p.kind.toNat
theorem bo_all : ∀ m, m < 65 → ∀ o, o < 65 → m + o ≤ 64 → IntKind.u64.wrap (IntKind.u64.wrap (IntKind.u64.wrap (2 ^ m) - 1) * 2 ^ o) = (((2 ^ m - 1) * 2 ^ o : Nat) : Int) := by decide +kernel
theorem ko_all : ∀ k, k < 7 → IntKind.u64.wrap (2 ^ k) = ((2 ^ k : Nat) : Int) := by decide +kernel
theorem bo_lt {p : Pt} (hp : fit p = true) : bo p < 18446744073709551616 := by
  obtain ⟨f1, f2, f3, f4, f5, f6, f7⟩ := fit_to hp
  have h : (2 ^ p.data.length - 1) * 2 ^ p.off.toNat ≤ (2 ^ p.data.length - 1) * 2 ^ (64 - p.data.length) := Nat.mul_le_mul_left _ (Nat.pow_le_pow_right (by omega) (by omega))
  have h2 : ∀ m, m < 65 → (2 ^ m - 1) * 2 ^ (64 - m) < 18446744073709551616 := by decide +kernel
  exact Nat.lt_of_le_of_lt h (h2 _ (by omega))
theorem ko_lt {p : Pt} (hp : fit p = true) : ko p < 128 := by
  obtain ⟨f1, f2, f3, f4, f5, f6, f7⟩ := fit_to hp
  have h2 : ∀ m, m < 7 → 2 ^ m < 128 := by decide
  exact h2 _ (by omega)
theorem bo_bit {p : Pt} (hp : fit p = true) (i : Nat) : (bo p).testBit i = (decide (p.off ≤ i) && decide ((i : Int) < p.off + (p.data.length : Int))) := by
  obtain ⟨f1, f2, f3, f4, f5, f6, f7⟩ := fit_to hp
  unfold bo
  rw [← Nat.shiftLeft_eq, Nat.testBit_shiftLeft, Nat.testBit_two_pow_sub_one, Bool.eq_iff_iff]
  simp only [Bool.and_eq_true, decide_eq_true_eq]
  omega
theorem bo_meet {p q : Pt} (hp : fit p = true) (hq : fit q = true) : (decide (bo q &&& bo p ≠ 0)) = (decide (q.off < p.off + (p.data.length : Int)) && decide (p.off < q.off + (q.data.length : Int))) := by
  obtain ⟨f1, f2, f3, f4, f5, f6, f7⟩ := fit_to hp
  obtain ⟨g1, g2, g3, g4, g5, g6, g7⟩ := fit_to hq
  rw [Bool.eq_iff_iff]
  simp only [Bool.and_eq_true, decide_eq_true_eq]
  constructor
  · intro h
    obtain ⟨i, hi⟩ := Nat.exists_testBit_of_ne_zero h
    rw [Nat.testBit_and, bo_bit hp, bo_bit hq] at hi
    simp only [Bool.and_eq_true, decide_eq_true_eq] at hi
    omega
  · intro h e
    have hb : (bo q &&& bo p).testBit (max q.off p.off).toNat = true := by
      rw [Nat.testBit_and, bo_bit hp, bo_bit hq]
      simp only [Bool.and_eq_true, decide_eq_true_eq]
      omega
    rw [e, Nat.zero_testBit] at hb; cases hb
theorem ko_meet {p q : Pt} (hp : fit p = true) (hq : fit q = true) : (decide (ko q &&& (18446744073709551615 - ko p) ≠ 0)) = (q.kind != p.kind) := by
  obtain ⟨f1, f2, f3, f4, f5, f6, f7⟩ := fit_to hp
  obtain ⟨g1, g2, g3, g4, g5, g6, g7⟩ := fit_to hq
  have h : ∀ a, a < 7 → ∀ b, b < 7 → (decide (2 ^ a &&& (18446744073709551615 - 2 ^ b) ≠ 0)) = (a != b) := by decide +kernel
  unfold ko
  rw [h _ (by omega) _ (by omega), Bool.eq_iff_iff]
  simp only [bne_iff_ne, ne_eq]
  omega
/-- Whether a shade meets a patch. -/
def mtS (x y : Nat) (p : Pt) : Bool := decide (x &&& bo p ≠ 0) || decide (y &&& (18446744073709551615 - ko p) ≠ 0)
/-- The shade of a list. -/
def shB (L : List Pt) : Nat := L.foldl (fun s p => s ||| bo p) 0
def shK (L : List Pt) : Nat := L.foldl (fun s p => s ||| ko p) 0
theorem shB_snoc (L : List Pt) (p : Pt) : shB (L ++ [p]) = shB L ||| bo p := by unfold shB; rw [List.foldl_append]; rfl
theorem shK_snoc (L : List Pt) (p : Pt) : shK (L ++ [p]) = shK L ||| ko p := by unfold shK; rw [List.foldl_append]; rfl
theorem or_lt64 {a b : Nat} (h1 : a < 18446744073709551616) (h2 : b < 18446744073709551616) : a ||| b < 18446744073709551616 := Nat.or_lt_two_pow (n := 64) h1 h2
theorem or_ne (a b c : Nat) : decide ((a ||| b) &&& c ≠ 0) = (decide (a &&& c ≠ 0) || decide (b &&& c ≠ 0)) := by
  rw [Nat.and_or_distrib_right, Bool.eq_iff_iff]
  simp only [Bool.or_eq_true, decide_eq_true_eq, ne_eq, Nat.or_eq_zero_iff]
  omega
theorem snocInd {P : List Pt → Prop} (h0 : P []) (h1 : ∀ L p, P L → P (L ++ [p])) : ∀ L, P L := by
  have : ∀ L : List Pt, P L.reverse := by
    intro L
    induction L with
    | nil => simpa using h0
    | cons a t ih => rw [List.reverse_cons]; exact h1 _ _ ih
  intro L
  have := this L.reverse
  rwa [List.reverse_reverse] at this
theorem sh_lt : ∀ (L : List Pt), (∀ q ∈ L, fit q = true) → shB L < 18446744073709551616 ∧ shK L < 18446744073709551616 := by
  refine snocInd ?_ ?_
  · intro _; exact ⟨by decide, by decide⟩
  · intro L p ih h
    have := ih (fun q hq => h q (by simp [hq]))
    have hp := h p (by simp)
    rw [shB_snoc, shK_snoc]
    exact ⟨or_lt64 this.1 (bo_lt hp), or_lt64 this.2 (by have := ko_lt hp; omega)⟩
theorem mtS_is (p : Pt) (hp : fit p = true) : ∀ (L : List Pt), (∀ q ∈ L, fit q = true ∧ q.at' = p.at') → mtS (shB L) (shK L) p = L.any (fun q => meet q p) := by
  refine snocInd ?_ ?_
  · intro _; simp [mtS, shB, shK]
  · intro L q ih h
    have ih' := ih (fun r hr => h r (by simp [hr]))
    obtain ⟨hq, hs⟩ := h q (by simp)
    rw [List.any_append, ← ih']
    unfold mtS
    rw [shB_snoc, shK_snoc, or_ne, or_ne, bo_meet hp hq, ko_meet hp hq]
    have e : meet q p = ((q.kind != p.kind) || (decide (q.off < p.off + (p.data.length : Int)) && decide (p.off < q.off + (q.data.length : Int)))) := by unfold meet; rw [hs]; simp
    simp only [List.any_cons, List.any_nil, Bool.or_false, e]
    generalize decide (shB L &&& bo p ≠ 0) = a1
    generalize decide (shK L &&& (18446744073709551615 - ko p) ≠ 0) = a2
    generalize (decide (q.off < p.off + (p.data.length : Int)) && decide (p.off < q.off + (q.data.length : Int))) = a3
    generalize (q.kind != p.kind) = a4
    cases a1 <;> cases a2 <;> cases a3 <;> cases a4 <;> rfl
set_option maxRecDepth 100000 in
set_option maxHeartbeats 2000000 in
theorem bytesOf_any (p : Pt) (d n : Sv) (w : World) (hp : fit p = true) (hd : d.n = p.data.length) :
    Calls Tryz.prog 78 #[.agg (p.cs d n).toArray] w fun e w' => e = .returned (.int .u64 (bo p : Int)) ∧ Below w.heap.size w w' := by
  obtain ⟨f1, f2, f3, f4, f5, f6, f7⟩ := fit_to hp
  have tok : True := trivial
  go_enter Tryz.func78, Tryz.ntmps78
  go_wp2_with (first
    | (clear tok; refine at_boxP (by rfl) _ (by rfl) p d n (by rfl) ?_; intro g1 w1 a1 a2 r1 b1; obtain ⟨c0, c1, c2, c3, c4, c5, c6, c7, c8⟩ := Pt.cells r1; clear c0 c1 c4 c5 c6 c7 c8))
  go_region
  go_wp2
  go_returns
  exact ⟨ret_int (bo_all p.data.length (by omega) p.off.toNat (by omega) (by omega)), b1.drew⟩
set_option maxRecDepth 100000 in
set_option maxHeartbeats 2000000 in
theorem kindOf_any (p : Pt) (d n : Sv) (w : World) (hp : fit p = true) :
    Calls Tryz.prog 79 #[.agg (p.cs d n).toArray] w fun e w' => e = .returned (.int .u64 (ko p : Int)) ∧ Below w.heap.size w w' := by
  obtain ⟨f1, f2, f3, f4, f5, f6, f7⟩ := fit_to hp
  have tok : True := trivial
  go_enter Tryz.func79, Tryz.ntmps79
  go_wp2_with (first
    | (clear tok; refine at_boxP (by rfl) _ (by rfl) p d n (by rfl) ?_; intro g1 w1 a1 a2 r1 b1; obtain ⟨c0, c1, c2, c3, c4, c5, c6, c7, c8⟩ := Pt.cells r1; clear c0 c1 c2 c3 c5 c6 c7 c8))
  go_returns
  exact ⟨ret_int (ko_all p.kind.toNat (by omega)), b1⟩
/-- A shade with a patch. -/
def oB (x : Nat) (p : Pt) : Nat := x ||| bo p
def oK (y : Nat) (p : Pt) : Nat := y ||| ko p
/-- A shade's cells. -/
def shC (x y : Nat) : List Value := [.int .u64 (x : Int), .int .u64 (y : Int)]
theorem shC_one (x y : Nat) : ∀ v ∈ shC x y, v.oneCell' = true := by
  intro v hv; unfold shC at hv; simp at hv; rcases hv with h | h <;> subst h <;> rfl
theorem srtS : Srt 96 2 (shC 0 0) :=
  ⟨⟨_, Tryz.underlying96, rfl⟩, by kernel_rfl, fun w => (zero_of_info (v := .agg (shC 0 0).toArray) (n := 2) (by kernel_rfl)).1 w, rfl, shC_one _ _⟩
set_option maxRecDepth 100000 in
set_option maxHeartbeats 2000000 in
theorem with_any (x y : Nat) (p : Pt) (d n : Sv) (w : World) (hx : x < 18446744073709551616) (hy : y < 18446744073709551616) (hp : fit p = true) (hd : d.n = p.data.length) :
    Calls Tryz.prog 58 #[.agg (shC x y).toArray, .agg (p.cs d n).toArray] w fun e w' => e = .returned (.agg (shC (oB x p) (oK y p)).toArray) ∧ Below w.heap.size w w' := by
  have hB := fun w => bytesOf_any p d n w hp hd
  have hKd := fun w => kindOf_any p d n w hp
  have l1 := bo_lt hp
  have l2 := ko_lt hp
  have o1 : bits .or .u64 (x : Int) (bo p : Int) = (oB x p : Int) := u64_or_nat x (bo p) hx l1
  have o2 : bits .or .u64 (y : Int) (ko p : Int) = (oK y p : Int) := u64_or_nat y (ko p) hy (by omega)
  have tok : True := trivial
  have tok2 : True := trivial
  have tok3 : True := trivial
  go_enter Tryz.func58, Tryz.ntmps58
  go_wp2_with (first
    | (clear tok; refine at_boxC 96 (by rfl) _ (by rfl) (shC x y) (by rfl) (shC_one x y) ?_; intro g1 w1 a1 a2 r1 b1)
    | (clear tok2; refine at_boxP (by rfl) _ (by rfl) p d n (by rfl) ?_; intro g2 w2 a3 a4 r2 b2)
    | (clear tok3; refine at_newC 96 2 _ srtS (by rfl) (by rfl) ?_; intro g3 w3 a5 a6 r3 b3))
  replace r1 := (r1.later b2).later b3
  replace r2 := r2.later b3
  have b9 : Below w.heap.size w w3 := bnext (bnext b1 b2 (Nat.le_refl _)) b3 (Nat.le_refl _)
  clear hd
  refine wp_region_last (S := fun u => Below w3.heap.size w3 u) _ _ (by simp only [List.pop_toArray, List.dropLast_cons_cons, List.dropLast_singleton]; rfl) (by simp only [List.back?_toArray, List.getLast?_cons_cons, List.getLast?_singleton]; rfl) (by kernel_rfl) (by kernel_rfl) (Below.refl _ _).drew (fun hHeld => ?_)
  refine wpAnyH_take (i := 0) (oi := { dst := some 5, op := Op.fieldAddr 96 (Operand.tmp 2) 0, type := 0, pos := _, after := #[], guard := none }) (v := .pointer (some ⟨g1, 0, none⟩)) rfl (by kernel_rfl) (by kernel_rfl) (by kernel_rfl) (fun _ _ _ h => h) (Or.inl ⟨by rfl, ?_⟩) hHeld ?_
  · intro u hu
    go_simp
  try simp only [Act.put, List.setIfInBounds_toArray, List.set_cons_zero, List.set_cons_succ]
  refine wpAnyH_take (i := 1) (oi := { dst := some 6, op := Op.load 79 (Operand.tmp 5), type := 79, pos := _, after := #[{ on := 0, ground := Ground.data }], guard := none }) (v := .int .u64 (x : Int)) rfl (by kernel_rfl) (by kernel_rfl) (by kernel_rfl) (fun _ _ _ h => h) (Or.inl ⟨by rfl, ?_⟩) hHeld ?_
  · intro u hu
    have x1 := (r1.later hu).cell 0 _ rfl; go_simp
  try simp only [Act.put, List.setIfInBounds_toArray, List.set_cons_zero, List.set_cons_succ]
  refine wpAnyH_take (i := 2) (oi := { dst := some 7, op := Op.load 54 (Operand.tmp 3), type := 54, pos := _, after := #[], guard := none }) (v := .agg (p.cs d n).toArray) rfl (by kernel_rfl) (by kernel_rfl) (by kernel_rfl) (fun _ _ _ h => h)
    (yields_P (by rfl) _ (by rfl) g2 (by rfl) p d n (fun u hu => r2.later hu)) hHeld ?_
  try simp only [Act.put, List.setIfInBounds_toArray, List.set_cons_zero, List.set_cons_succ]
  refine wpAnyH_take (i := 5) (oi := { dst := some 10, op := Op.fieldAddr 96 (Operand.tmp 2) 1, type := 0, pos := _, after := #[], guard := none }) (v := .pointer (some ⟨g1, 1, none⟩)) rfl (by kernel_rfl) (by kernel_rfl) (by kernel_rfl) (fun _ _ _ h => h) (Or.inl ⟨by rfl, ?_⟩) hHeld ?_
  · intro u hu
    go_simp
  try simp only [Act.put, List.setIfInBounds_toArray, List.set_cons_zero, List.set_cons_succ]
  refine wpAnyH_take (i := 6) (oi := { dst := some 11, op := Op.load 79 (Operand.tmp 10), type := 79, pos := _, after := #[{ on := 5, ground := Ground.data }], guard := none }) (v := .int .u64 (y : Int)) rfl (by kernel_rfl) (by kernel_rfl) (by kernel_rfl) (fun _ _ _ h => h) (Or.inl ⟨by rfl, ?_⟩) hHeld ?_
  · intro u hu
    have x1 := (r1.later hu).cell 1 _ rfl; go_simp
  try simp only [Act.put, List.setIfInBounds_toArray, List.set_cons_zero, List.set_cons_succ]
  refine wpAnyH_take (i := 7) (oi := { dst := some 12, op := Op.load 54 (Operand.tmp 3), type := 54, pos := _, after := #[], guard := none }) (v := .agg (p.cs d n).toArray) rfl (by kernel_rfl) (by kernel_rfl) (by kernel_rfl) (fun _ _ _ h => h)
    (yields_P (by rfl) _ (by rfl) g2 (by rfl) p d n (fun u hu => r2.later hu)) hHeld ?_
  try simp only [Act.put, List.setIfInBounds_toArray, List.set_cons_zero, List.set_cons_succ]
  refine wpAnyH_ready (rs := [3]) (by kernel_rfl) (by simp) ?_
  refine (AllReadyH.cons (o := { dst := some 8, op := Op.call { callee := Callee.value (Operand.func 78), args := #[Operand.tmp 7], argTypes := #[54] }, type := 79, pos := _, after := #[{ on := 2, ground := Ground.data }], guard := none }) rfl (fun K hK => ?_) AllReadyH.nil)
  go_simp
  refine (hB _).mono ?_
  rintro e w4 ⟨rfl, q4⟩
  try go_wp2_with fail
  refine hK.out _ _ (bnext (by assumption) q4 (Nat.le_refl _)) (fun hHeld => ?_)
  clear hK K
  try simp only [Act.put, List.setIfInBounds_toArray, List.set_cons_zero, List.set_cons_succ]
  refine wpAnyH_take (i := 4) (oi := { dst := some 9, op := Op.binOp BinOp.or 79 (Operand.tmp 6) (Operand.tmp 8) 79, type := 79, pos := _, after := #[{ on := 1, ground := Ground.data }, { on := 3, ground := Ground.data }], guard := none }) (v := .int .u64 (oB x p : Int)) rfl (by kernel_rfl) (by kernel_rfl) (by kernel_rfl) (fun _ _ _ h => h) (Or.inl ⟨by rfl, ?_⟩) hHeld ?_
  · intro u hu
    go_simp
  try simp only [Act.put, List.setIfInBounds_toArray, List.set_cons_zero, List.set_cons_succ]
  refine wpAnyH_ready (rs := [8]) (by kernel_rfl) (by simp) ?_
  refine (AllReadyH.cons (o := { dst := some 13, op := Op.call { callee := Callee.value (Operand.func 79), args := #[Operand.tmp 12], argTypes := #[54] }, type := 79, pos := _, after := #[{ on := 7, ground := Ground.data }, { on := 3, ground := Ground.chain }], guard := none }) rfl (fun K hK => ?_) AllReadyH.nil)
  go_simp
  refine (hKd _).mono ?_
  rintro e w5 ⟨rfl, q5⟩
  try go_wp2_with fail
  refine hK.out _ _ (bnext (by assumption) q5 (Nat.le_refl _)) (fun hHeld => ?_)
  clear hK K
  try simp only [Act.put, List.setIfInBounds_toArray, List.set_cons_zero, List.set_cons_succ]
  refine wpAnyH_take (i := 9) (oi := { dst := some 14, op := Op.binOp BinOp.or 79 (Operand.tmp 11) (Operand.tmp 13) 79, type := 79, pos := _, after := #[{ on := 6, ground := Ground.data }, { on := 8, ground := Ground.data }], guard := none }) (v := .int .u64 (oK y p : Int)) rfl (by kernel_rfl) (by kernel_rfl) (by kernel_rfl) (fun _ _ _ h => h) (Or.inl ⟨by rfl, ?_⟩) hHeld ?_
  · intro u hu
    go_simp
  try simp only [Act.put, List.setIfInBounds_toArray, List.set_cons_zero, List.set_cons_succ]
  refine wpAnyH_take (i := 10) (oi := { dst := some 15, op := Op.build 96 #[(0, Operand.tmp 9), (1, Operand.tmp 14)], type := 96, pos := _, after := #[{ on := 4, ground := Ground.data }, { on := 9, ground := Ground.data }], guard := none }) (v := .agg (shC (oB x p) (oK y p)).toArray) rfl (by kernel_rfl) (by kernel_rfl) (by kernel_rfl) (fun _ _ _ h => h) (Or.inl ⟨by rfl, ?_⟩) hHeld ?_
  · intro u hu
    go_simp; rfl
  try simp only [Act.put, List.setIfInBounds_toArray, List.set_cons_zero, List.set_cons_succ]
  refine wpAnyH_done (by kernel_rfl) ?_ _
  have b8 : Below w.heap.size w w5 := bnext b9 hHeld (Nat.le_refl _)
  show wpList _ _ _ [_] _ _
  refine at_putC 96 2 _ srtS (by rfl) _ _ (by rfl) g3 (by rfl) (shC (oB x p) (oK y p)) (by rfl) rfl (shC_one _ _) _ (r3.later hHeld) rfl ?_
  intro w6 r6 s6
  go_wp2_with fail
  refine bodyPost_ret (retC srtS rfl rfl r6 rfl) rfl ⟨rfl, ((Stp.of_below b8 (fun _ => False)).next s6 (fun x e => .inr (by have := b1.size; have := b2.size; omega))).below (Nat.le_refl _) (fun x e => e.elim)⟩
def aB (x : Nat) (p : Pt) : Nat := x &&& bo p
def aK (y : Nat) (p : Pt) : Nat := y &&& (18446744073709551615 - ko p)
set_option maxRecDepth 100000 in
set_option maxHeartbeats 2000000 in
theorem meets_any (x y : Nat) (p : Pt) (d n : Sv) (w : World) (hx : x < 18446744073709551616) (hy : y < 18446744073709551616) (hp : fit p = true) (hd : d.n = p.data.length) :
    Calls Tryz.prog 57 #[.agg (shC x y).toArray, .agg (p.cs d n).toArray] w fun e w' => e = .returned (.bool (mtS x y p)) ∧ Below w.heap.size w w' := by
  have hB := fun w => bytesOf_any p d n w hp hd
  have hKd := fun w => kindOf_any p d n w hp
  have l1 := bo_lt hp
  have l2 := ko_lt hp
  have o1 : bits .and .u64 (x : Int) (bo p : Int) = (aB x p : Int) := u64_and_nat x (bo p) hx l1
  have o2 : bits .andNot .u64 (y : Int) (ko p : Int) = (aK y p : Int) := u64_andNot_nat y (ko p) hy (by omega)
  have tok : True := trivial
  have tok2 : True := trivial
  clear hd
  go_enter Tryz.func57, Tryz.ntmps57
  go_wp2_with (first
    | (clear tok; refine at_boxC 96 (by rfl) _ (by rfl) (shC x y) (by rfl) (shC_one x y) ?_; intro g1 w1 a1 a2 r1 b1)
    | (clear tok2; refine at_boxP (by rfl) _ (by rfl) p d n (by rfl) ?_; intro g2 w2 a3 a4 r2 b2))
  replace r1 := r1.later b2
  have b9 : Below w.heap.size w w2 := bnext b1 b2 (Nat.le_refl _)
  by_cases hc : aB x p ≠ 0
  · refine wp_region_held_drew (S := fun u => Below w2.heap.size w2 u) (by kernel_rfl) (Below.refl _ _).drew (fun hHeld => ?_)
    refine wpAnyH_take (i := 0) (oi := { dst := some 5, op := Op.fieldAddr 96 (Operand.tmp 2) 0, type := 0, pos := _, after := #[], guard := none }) (v := .pointer (some ⟨g1, 0, none⟩)) rfl (by kernel_rfl) (by kernel_rfl) (by kernel_rfl) (fun _ _ _ h => h) (Or.inl ⟨by rfl, ?_⟩) hHeld ?_
    · intro u hu
      go_simp
    try simp only [Act.put, List.setIfInBounds_toArray, List.set_cons_zero, List.set_cons_succ]
    refine wpAnyH_take (i := 1) (oi := { dst := some 6, op := Op.load 79 (Operand.tmp 5), type := 79, pos := _, after := #[{ on := 0, ground := Ground.data }], guard := none }) (v := .int .u64 (x : Int)) rfl (by kernel_rfl) (by kernel_rfl) (by kernel_rfl) (fun _ _ _ h => h) (Or.inl ⟨by rfl, ?_⟩) hHeld ?_
    · intro u hu
      have x1 := (r1.later hu).cell 0 _ rfl; go_simp
    try simp only [Act.put, List.setIfInBounds_toArray, List.set_cons_zero, List.set_cons_succ]
    refine wpAnyH_take (i := 2) (oi := { dst := some 7, op := Op.load 54 (Operand.tmp 3), type := 54, pos := _, after := #[], guard := none }) (v := .agg (p.cs d n).toArray) rfl (by kernel_rfl) (by kernel_rfl) (by kernel_rfl) (fun _ _ _ h => h)
      (yields_P (by rfl) _ (by rfl) g2 (by rfl) p d n (fun u hu => r2.later hu)) hHeld ?_
    try simp only [Act.put, List.setIfInBounds_toArray, List.set_cons_zero, List.set_cons_succ]
    refine wpAnyH_ready (rs := [3]) (by kernel_rfl) (by simp) ?_
    refine (AllReadyH.cons (o := { dst := some 8, op := Op.call { callee := Callee.value (Operand.func 78), args := #[Operand.tmp 7], argTypes := #[54] }, type := 79, pos := _, after := #[{ on := 2, ground := Ground.data }], guard := none }) rfl (fun K hK => ?_) AllReadyH.nil)
    go_simp
    refine (hB _).mono ?_
    rintro e w4 ⟨rfl, q4⟩
    try go_wp2_with fail
    refine hK.out _ _ (bnext (by assumption) q4 (Nat.le_refl _)) (fun hHeld => ?_)
    clear hK K
    try simp only [Act.put, List.setIfInBounds_toArray, List.set_cons_zero, List.set_cons_succ]
    refine wpAnyH_take (i := 4) (oi := { dst := some 9, op := Op.binOp BinOp.and 79 (Operand.tmp 6) (Operand.tmp 8) 79, type := 79, pos := _, after := #[{ on := 1, ground := Ground.data }, { on := 3, ground := Ground.data }], guard := none }) (v := .int .u64 (aB x p : Int)) rfl (by kernel_rfl) (by kernel_rfl) (by kernel_rfl) (fun _ _ _ h => h) (Or.inl ⟨by rfl, ?_⟩) hHeld ?_
    · intro u hu
      go_simp
    try simp only [Act.put, List.setIfInBounds_toArray, List.set_cons_zero, List.set_cons_succ]
    refine wpAnyH_take (i := 5) (oi := { dst := some 10, op := Op.binOp BinOp.neq 79 (Operand.tmp 9) (Operand.const (Value.int IntKind.u64 0)) 79, type := 4, pos := _, after := #[{ on := 4, ground := Ground.data }], guard := none }) (v := .bool true) rfl (by kernel_rfl) (by kernel_rfl) (by kernel_rfl) (fun _ _ _ h => h) (Or.inl ⟨by rfl, ?_⟩) hHeld ?_
    · intro u hu
      go_simp
    try simp only [Act.put, List.setIfInBounds_toArray, List.set_cons_zero, List.set_cons_succ]
    refine wpAnyH_take (i := 6) (oi := { dst := some 11, op := Op.move (Operand.tmp 10), type := 4, pos := _, after := #[{ on := 5, ground := Ground.data }, { on := 3, ground := Ground.chain }], guard := none }) (v := .bool true) rfl (by kernel_rfl) (by kernel_rfl) (by kernel_rfl) (fun _ _ _ h => h) (Or.inl ⟨by rfl, ?_⟩) hHeld ?_
    · intro u hu
      go_simp
    try simp only [Act.put, List.setIfInBounds_toArray, List.set_cons_zero, List.set_cons_succ]
    refine wpAnyH_take (i := 7) (oi := { dst := some 12, op := Op.fieldAddr 96 (Operand.tmp 2) 1, type := 0, pos := _, after := #[{ on := 6, ground := Ground.guard }], guard := some (6, false) }) (v := undef) rfl (by kernel_rfl) (by kernel_rfl) (by kernel_rfl) (fun _ _ _ h => h)
      (Or.inr ⟨by rfl, rfl⟩) hHeld ?_
    try simp only [Act.put, List.setIfInBounds_toArray, List.set_cons_zero, List.set_cons_succ]
    refine wpAnyH_take (i := 8) (oi := { dst := some 13, op := Op.load 79 (Operand.tmp 12), type := 79, pos := _, after := #[{ on := 7, ground := Ground.data }, { on := 6, ground := Ground.guard }], guard := some (6, false) }) (v := undef) rfl (by kernel_rfl) (by kernel_rfl) (by kernel_rfl) (fun _ _ _ h => h)
      (Or.inr ⟨by rfl, rfl⟩) hHeld ?_
    try simp only [Act.put, List.setIfInBounds_toArray, List.set_cons_zero, List.set_cons_succ]
    refine wpAnyH_take (i := 9) (oi := { dst := some 14, op := Op.load 54 (Operand.tmp 3), type := 54, pos := _, after := #[{ on := 6, ground := Ground.guard }], guard := some (6, false) }) (v := undef) rfl (by kernel_rfl) (by kernel_rfl) (by kernel_rfl) (fun _ _ _ h => h)
      (Or.inr ⟨by rfl, rfl⟩) hHeld ?_
    try simp only [Act.put, List.setIfInBounds_toArray, List.set_cons_zero, List.set_cons_succ]
    refine wpAnyH_take (i := 10) (oi := { dst := some 15, op := Op.call { callee := Callee.value (Operand.func 79), args := #[Operand.tmp 14], argTypes := #[54] }, type := 79, pos := _, after := #[{ on := 9, ground := Ground.data }, { on := 6, ground := Ground.chain }, { on := 6, ground := Ground.guard }], guard := some (6, false) }) (v := undef) rfl (by kernel_rfl) (by kernel_rfl) (by kernel_rfl) (fun _ _ _ h => h)
      (Or.inr ⟨by rfl, rfl⟩) hHeld ?_
    try simp only [Act.put, List.setIfInBounds_toArray, List.set_cons_zero, List.set_cons_succ]
    refine wpAnyH_take (i := 11) (oi := { dst := some 16, op := Op.binOp BinOp.andNot 79 (Operand.tmp 13) (Operand.tmp 15) 79, type := 79, pos := _, after := #[{ on := 8, ground := Ground.data }, { on := 10, ground := Ground.data }, { on := 6, ground := Ground.guard }], guard := some (6, false) }) (v := undef) rfl (by kernel_rfl) (by kernel_rfl) (by kernel_rfl) (fun _ _ _ h => h)
      (Or.inr ⟨by rfl, rfl⟩) hHeld ?_
    try simp only [Act.put, List.setIfInBounds_toArray, List.set_cons_zero, List.set_cons_succ]
    refine wpAnyH_take (i := 12) (oi := { dst := some 17, op := Op.binOp BinOp.neq 79 (Operand.tmp 16) (Operand.const (Value.int IntKind.u64 0)) 79, type := 4, pos := _, after := #[{ on := 11, ground := Ground.data }, { on := 6, ground := Ground.guard }], guard := some (6, false) }) (v := undef) rfl (by kernel_rfl) (by kernel_rfl) (by kernel_rfl) (fun _ _ _ h => h)
      (Or.inr ⟨by rfl, rfl⟩) hHeld ?_
    try simp only [Act.put, List.setIfInBounds_toArray, List.set_cons_zero, List.set_cons_succ]
    refine wpAnyH_take (i := 13) (oi := { dst := some 18, op := Op.pick (Operand.tmp 11) (Operand.const (Value.bool true)) (Operand.tmp 17), type := 4, pos := _, after := #[{ on := 6, ground := Ground.data }, { on := 12, ground := Ground.data }], guard := none }) (v := .bool true) rfl (by kernel_rfl) (by kernel_rfl) (by kernel_rfl) (fun _ _ _ h => h) (Or.inl ⟨by rfl, ?_⟩) hHeld ?_
    · intro u hu
      go_simp
    try simp only [Act.put, List.setIfInBounds_toArray, List.set_cons_zero, List.set_cons_succ]
    refine wpAnyH_take (i := 14) (oi := { dst := some 4, op := Op.assign (Operand.tmp 18), type := 4, pos := _, after := #[{ on := 13, ground := Ground.data }, { on := 10, ground := Ground.chain }, { on := 0, ground := Ground.phase }, { on := 1, ground := Ground.phase }, { on := 2, ground := Ground.phase }, { on := 3, ground := Ground.phase }, { on := 4, ground := Ground.phase }, { on := 5, ground := Ground.phase }, { on := 6, ground := Ground.phase }, { on := 7, ground := Ground.phase }, { on := 8, ground := Ground.phase }, { on := 9, ground := Ground.phase }, { on := 10, ground := Ground.phase }, { on := 11, ground := Ground.phase }, { on := 12, ground := Ground.phase }, { on := 13, ground := Ground.phase }], guard := none }) (v := .bool true) rfl (by kernel_rfl) (by kernel_rfl) (by kernel_rfl) (fun _ _ _ h => h) (Or.inl ⟨by rfl, ?_⟩) hHeld ?_
    · intro u hu
      go_simp
    try simp only [Act.put, List.setIfInBounds_toArray, List.set_cons_zero, List.set_cons_succ]
    refine wpAnyH_done (by kernel_rfl) ?_ _
    go_wp2_with fail
    go_returns
    exact ⟨ret_bool (by unfold mtS; rw [show x &&& bo p = aB x p from rfl, show y &&& (18446744073709551615 - ko p) = aK y p from rfl]; simp [hc]), bnext b9 hHeld (Nat.le_refl _)⟩
  · refine wp_region_held_drew (S := fun u => Below w2.heap.size w2 u) (by kernel_rfl) (Below.refl _ _).drew (fun hHeld => ?_)
    refine wpAnyH_take (i := 0) (oi := { dst := some 5, op := Op.fieldAddr 96 (Operand.tmp 2) 0, type := 0, pos := _, after := #[], guard := none }) (v := .pointer (some ⟨g1, 0, none⟩)) rfl (by kernel_rfl) (by kernel_rfl) (by kernel_rfl) (fun _ _ _ h => h) (Or.inl ⟨by rfl, ?_⟩) hHeld ?_
    · intro u hu
      go_simp
    try simp only [Act.put, List.setIfInBounds_toArray, List.set_cons_zero, List.set_cons_succ]
    refine wpAnyH_take (i := 1) (oi := { dst := some 6, op := Op.load 79 (Operand.tmp 5), type := 79, pos := _, after := #[{ on := 0, ground := Ground.data }], guard := none }) (v := .int .u64 (x : Int)) rfl (by kernel_rfl) (by kernel_rfl) (by kernel_rfl) (fun _ _ _ h => h) (Or.inl ⟨by rfl, ?_⟩) hHeld ?_
    · intro u hu
      have x1 := (r1.later hu).cell 0 _ rfl; go_simp
    try simp only [Act.put, List.setIfInBounds_toArray, List.set_cons_zero, List.set_cons_succ]
    refine wpAnyH_take (i := 2) (oi := { dst := some 7, op := Op.load 54 (Operand.tmp 3), type := 54, pos := _, after := #[], guard := none }) (v := .agg (p.cs d n).toArray) rfl (by kernel_rfl) (by kernel_rfl) (by kernel_rfl) (fun _ _ _ h => h)
      (yields_P (by rfl) _ (by rfl) g2 (by rfl) p d n (fun u hu => r2.later hu)) hHeld ?_
    try simp only [Act.put, List.setIfInBounds_toArray, List.set_cons_zero, List.set_cons_succ]
    refine wpAnyH_ready (rs := [3]) (by kernel_rfl) (by simp) ?_
    refine (AllReadyH.cons (o := { dst := some 8, op := Op.call { callee := Callee.value (Operand.func 78), args := #[Operand.tmp 7], argTypes := #[54] }, type := 79, pos := _, after := #[{ on := 2, ground := Ground.data }], guard := none }) rfl (fun K hK => ?_) AllReadyH.nil)
    go_simp
    refine (hB _).mono ?_
    rintro e w4 ⟨rfl, q4⟩
    try go_wp2_with fail
    refine hK.out _ _ (bnext (by assumption) q4 (Nat.le_refl _)) (fun hHeld => ?_)
    clear hK K
    try simp only [Act.put, List.setIfInBounds_toArray, List.set_cons_zero, List.set_cons_succ]
    refine wpAnyH_take (i := 4) (oi := { dst := some 9, op := Op.binOp BinOp.and 79 (Operand.tmp 6) (Operand.tmp 8) 79, type := 79, pos := _, after := #[{ on := 1, ground := Ground.data }, { on := 3, ground := Ground.data }], guard := none }) (v := .int .u64 (aB x p : Int)) rfl (by kernel_rfl) (by kernel_rfl) (by kernel_rfl) (fun _ _ _ h => h) (Or.inl ⟨by rfl, ?_⟩) hHeld ?_
    · intro u hu
      go_simp
    try simp only [Act.put, List.setIfInBounds_toArray, List.set_cons_zero, List.set_cons_succ]
    refine wpAnyH_take (i := 5) (oi := { dst := some 10, op := Op.binOp BinOp.neq 79 (Operand.tmp 9) (Operand.const (Value.int IntKind.u64 0)) 79, type := 4, pos := _, after := #[{ on := 4, ground := Ground.data }], guard := none }) (v := .bool false) rfl (by kernel_rfl) (by kernel_rfl) (by kernel_rfl) (fun _ _ _ h => h) (Or.inl ⟨by rfl, ?_⟩) hHeld ?_
    · intro u hu
      go_simp; omega
    try simp only [Act.put, List.setIfInBounds_toArray, List.set_cons_zero, List.set_cons_succ]
    refine wpAnyH_take (i := 6) (oi := { dst := some 11, op := Op.move (Operand.tmp 10), type := 4, pos := _, after := #[{ on := 5, ground := Ground.data }, { on := 3, ground := Ground.chain }], guard := none }) (v := .bool false) rfl (by kernel_rfl) (by kernel_rfl) (by kernel_rfl) (fun _ _ _ h => h) (Or.inl ⟨by rfl, ?_⟩) hHeld ?_
    · intro u hu
      go_simp
    try simp only [Act.put, List.setIfInBounds_toArray, List.set_cons_zero, List.set_cons_succ]
    refine wpAnyH_take (i := 7) (oi := { dst := some 12, op := Op.fieldAddr 96 (Operand.tmp 2) 1, type := 0, pos := _, after := #[{ on := 6, ground := Ground.guard }], guard := some (6, false) }) (v := .pointer (some ⟨g1, 1, none⟩)) rfl (by kernel_rfl) (by kernel_rfl) (by kernel_rfl) (fun _ _ _ h => h) (Or.inl ⟨by rfl, ?_⟩) hHeld ?_
    · intro u hu
      go_simp
    try simp only [Act.put, List.setIfInBounds_toArray, List.set_cons_zero, List.set_cons_succ]
    refine wpAnyH_take (i := 8) (oi := { dst := some 13, op := Op.load 79 (Operand.tmp 12), type := 79, pos := _, after := #[{ on := 7, ground := Ground.data }, { on := 6, ground := Ground.guard }], guard := some (6, false) }) (v := .int .u64 (y : Int)) rfl (by kernel_rfl) (by kernel_rfl) (by kernel_rfl) (fun _ _ _ h => h) (Or.inl ⟨by rfl, ?_⟩) hHeld ?_
    · intro u hu
      have x1 := (r1.later hu).cell 1 _ rfl; go_simp
    try simp only [Act.put, List.setIfInBounds_toArray, List.set_cons_zero, List.set_cons_succ]
    refine wpAnyH_take (i := 9) (oi := { dst := some 14, op := Op.load 54 (Operand.tmp 3), type := 54, pos := _, after := #[{ on := 6, ground := Ground.guard }], guard := some (6, false) }) (v := .agg (p.cs d n).toArray) rfl (by kernel_rfl) (by kernel_rfl) (by kernel_rfl) (fun _ _ _ h => h)
      (yields_P (by rfl) _ (by rfl) g2 (by rfl) p d n (fun u hu => r2.later hu)) hHeld ?_
    try simp only [Act.put, List.setIfInBounds_toArray, List.set_cons_zero, List.set_cons_succ]
    refine wpAnyH_ready (rs := [10]) (by kernel_rfl) (by simp) ?_
    refine (AllReadyH.cons (o := { dst := some 15, op := Op.call { callee := Callee.value (Operand.func 79), args := #[Operand.tmp 14], argTypes := #[54] }, type := 79, pos := _, after := #[{ on := 9, ground := Ground.data }, { on := 6, ground := Ground.chain }, { on := 6, ground := Ground.guard }], guard := some (6, false) }) rfl (fun K hK => ?_) AllReadyH.nil)
    go_simp
    refine (hKd _).mono ?_
    rintro e w5 ⟨rfl, q5⟩
    try go_wp2_with fail
    refine hK.out _ _ (bnext (by assumption) q5 (Nat.le_refl _)) (fun hHeld => ?_)
    clear hK K
    try simp only [Act.put, List.setIfInBounds_toArray, List.set_cons_zero, List.set_cons_succ]
    refine wpAnyH_take (i := 11) (oi := { dst := some 16, op := Op.binOp BinOp.andNot 79 (Operand.tmp 13) (Operand.tmp 15) 79, type := 79, pos := _, after := #[{ on := 8, ground := Ground.data }, { on := 10, ground := Ground.data }, { on := 6, ground := Ground.guard }], guard := some (6, false) }) (v := .int .u64 (aK y p : Int)) rfl (by kernel_rfl) (by kernel_rfl) (by kernel_rfl) (fun _ _ _ h => h) (Or.inl ⟨by rfl, ?_⟩) hHeld ?_
    · intro u hu
      go_simp
    try simp only [Act.put, List.setIfInBounds_toArray, List.set_cons_zero, List.set_cons_succ]
    refine wpAnyH_take (i := 12) (oi := { dst := some 17, op := Op.binOp BinOp.neq 79 (Operand.tmp 16) (Operand.const (Value.int IntKind.u64 0)) 79, type := 4, pos := _, after := #[{ on := 11, ground := Ground.data }, { on := 6, ground := Ground.guard }], guard := some (6, false) }) (v := .bool (decide (aK y p ≠ 0))) rfl (by kernel_rfl) (by kernel_rfl) (by kernel_rfl) (fun _ _ _ h => h) (Or.inl ⟨by rfl, ?_⟩) hHeld ?_
    · intro u hu
      go_simp; by_cases h : aK y p = 0 <;> simp [h]
    try simp only [Act.put, List.setIfInBounds_toArray, List.set_cons_zero, List.set_cons_succ]
    refine wpAnyH_take (i := 13) (oi := { dst := some 18, op := Op.pick (Operand.tmp 11) (Operand.const (Value.bool true)) (Operand.tmp 17), type := 4, pos := _, after := #[{ on := 6, ground := Ground.data }, { on := 12, ground := Ground.data }], guard := none }) (v := .bool (decide (aK y p ≠ 0))) rfl (by kernel_rfl) (by kernel_rfl) (by kernel_rfl) (fun _ _ _ h => h) (Or.inl ⟨by rfl, ?_⟩) hHeld ?_
    · intro u hu
      go_simp
    try simp only [Act.put, List.setIfInBounds_toArray, List.set_cons_zero, List.set_cons_succ]
    refine wpAnyH_take (i := 14) (oi := { dst := some 4, op := Op.assign (Operand.tmp 18), type := 4, pos := _, after := #[{ on := 13, ground := Ground.data }, { on := 10, ground := Ground.chain }, { on := 0, ground := Ground.phase }, { on := 1, ground := Ground.phase }, { on := 2, ground := Ground.phase }, { on := 3, ground := Ground.phase }, { on := 4, ground := Ground.phase }, { on := 5, ground := Ground.phase }, { on := 6, ground := Ground.phase }, { on := 7, ground := Ground.phase }, { on := 8, ground := Ground.phase }, { on := 9, ground := Ground.phase }, { on := 10, ground := Ground.phase }, { on := 11, ground := Ground.phase }, { on := 12, ground := Ground.phase }, { on := 13, ground := Ground.phase }], guard := none }) (v := .bool (decide (aK y p ≠ 0))) rfl (by kernel_rfl) (by kernel_rfl) (by kernel_rfl) (fun _ _ _ h => h) (Or.inl ⟨by rfl, ?_⟩) hHeld ?_
    · intro u hu
      go_simp
    try simp only [Act.put, List.setIfInBounds_toArray, List.set_cons_zero, List.set_cons_succ]
    refine wpAnyH_done (by kernel_rfl) ?_ _
    go_wp2_with fail
    go_returns
    exact ⟨ret_bool (by unfold mtS; rw [show x &&& bo p = aB x p from rfl, show y &&& (18446744073709551615 - ko p) = aK y p from rfl]; simp [hc]), bnext b9 hHeld (Nat.le_refl _)⟩
end Go.Proofs.YtdfifneikmlmoaaGreat
