/-
  What Settle, SettleAll and waitNoMore of layer 14 do: no statement is proved here.
-/
import Derived.Test.YtdfifneikmlmoaaGreatGrL
namespace Go.Proofs.YtdfifneikmlmoaaGreat
open Go.ChangeShapes Go.WideShapes Go.ChangeAt Go.RowKit
set_option linter.unusedVariables false
set_option linter.unusedSimpArgs false

theorem enter_sall : ∀ args w, (callFunc 71 args).run Tryz.prog w = .ok (.enter 71 args) w := enters_of Tryz.func71 (by kernel_rfl) rfl
set_option maxRecDepth 100000 in
set_option maxHeartbeats 1000000 in
theorem settleAll_any {w : World} {g mp mw : Nat} {f fw : Int → Option Value} {Z : GZ} {E F : Nat → Prop} (H : Gr w g mp mw f fw Z E F) :
    Calls Tryz.prog 42 #[.pointer (some ⟨g, 0, none⟩)] w fun e w' => e = .returned (.int .i64 (Z.stlN fun _ => true)) ∧ Gh w' g (Z.stl fun _ => true) E F ∧ Stp F w w' := by
  have hT := settle_any H 71 #[] _ (tells_sall w F E) enter_sall
  go_enter Tryz.func42, Tryz.ntmps42
  go_wp2_with (first | (go_at_call 70; refine hT.mono ?_; rintro e w1 ⟨rfl, h2, h3⟩))
  go_returns
  exact ⟨rfl, h2, h3⟩
/-- Where a number stands in a list that rises. -/
theorem cut_at : ∀ (L : List Int) (x : Int), L.Pairwise (· < ·) → x ∈ L → L.countP (· < x) < L.length ∧ L.take (L.countP (· < x)) ++ L.drop (L.countP (· < x) + 1) = L.filter fun y => !(y == x)
  | [], x, _, h => by cases h
  | a :: t, x, hs, h => by
    rw [List.pairwise_cons] at hs
    by_cases e : a = x
    · subst e
      have h0 : t.countP (· < a) = 0 := List.countP_eq_zero.2 fun y hy => by have := hs.1 y hy; simp; omega
      have hf : t.filter (fun y => !(y == a)) = t := List.filter_eq_self.2 fun y hy => by have := hs.1 y hy; simp; omega
      have h1 : (a :: t).countP (· < a) = 0 := by rw [List.countP_cons, h0]; simp
      rw [h1]
      refine ⟨by simp, ?_⟩
      simp [hf]
    · have hx : x ∈ t := by
        rcases List.mem_cons.1 h with h | h
        · exact absurd h.symm e
        · exact h
      have hlt := hs.1 x hx
      obtain ⟨i1, i2⟩ := cut_at t x hs.2 hx
      have h1 : (a :: t).countP (· < x) = t.countP (· < x) + 1 := by rw [List.countP_cons]; simp [hlt]
      rw [h1]
      refine ⟨by simp only [List.length_cons]; omega, ?_⟩
      have e' : (a == x) = false := by simpa using e
      rw [List.take_succ_cons, List.drop_succ_cons, List.cons_append, i2, List.filter_cons, e']; rfl
theorem search_own {w : World} {v : Value} {l : List Int} (h : OwV w v l) (x : Int) (hl : l.length ≤ 1000000) (hs : l.Pairwise (· < ·)) (hn : l ≠ []) :
    Calls Tryz.prog 81 #[v, .int .i64 x] w fun e w' => e = .returned (.tuple #[.int .i64 (l.countP (· < x) : Nat), .bool (l.contains x)]) ∧ Below w.heap.size w w' := by
  obtain ⟨g, cap, cur, rfl, hw⟩ := h.row1 hn
  have := Any.slices_BinarySearch_int lays25 g 0 l.length cap l x w (Nat.le_refl _) (by omega) (fun j hj => by rw [Nat.zero_add]; exact hw.cell j hj) (by rw [List.take_length]; exact hs.imp (fun h => Int.le_of_lt h))
  rw [List.take_length] at this
  refine Calls.mono this ?_
  rintro e w' ⟨rfl, q, rfl⟩
  exact ⟨rfl, below_drewN w q⟩
/-- What waits of a sector, when one of it was written. -/
def Wtd (w w' : World) (mw : Nat) (fw : Int → Option Value) (s : Int) (v : Value) (L' : List Int) : Prop :=
  ∃ fw', MpI Tryz.prog 3 w' mw fw' ∧ Stp (fun x => x = mw ∨ v.ownBlock = some x) w w' ∧ ((L' = [] ∧ fw' = upd fw s none) ∨ (L' ≠ [] ∧ ∃ v', fw' = upd fw s (some v') ∧ OwV w' v' L' ∧ v'.ownBlock = v.ownBlock))
set_option maxRecDepth 100000 in
set_option maxHeartbeats 4000000 in
theorem waitNoMore_any {w : World} {g mp mw : Nat} {fw : Int → Option Value} {last : Int} {L : List Int} (p : Pt) (d n sv : Sv) (hc : Cs w g [.int .i64 last, .map (some mp), .map (some mw)]) (wm : MpI Tryz.prog 3 w mw fw) (hv : fw p.at' = some (.slice sv.a sv.n sv.c)) (ow : OwV w (.slice sv.a sv.n sv.c) L)
    (hs : L.Pairwise (· < ·)) (hp : p.id ∈ L) (hl : L.length ≤ 1000000) (hk : ∀ k, (fw k).isSome → 0 ≤ k ∧ k < 2048) (hwf : wfi p.at') (hg : (Value.slice sv.a sv.n sv.c).ownBlock ≠ some g) :
    Calls Tryz.prog 75 #[.pointer (some ⟨g, 0, none⟩), .agg (p.cs d n).toArray] w fun e w' => e = .returned (.tuple #[]) ∧ Wtd w w' mw fw p.at' (.slice sv.a sv.n sv.c) (L.filter fun y => !(y == p.id)) := by
  obtain ⟨sa, sn, sc⟩ := sv
  simp only at hv ow hg ⊢
  have hne : L ≠ [] := fun e => by rw [e] at hp; cases hp
  obtain ⟨k1, k2⟩ := cut_at L p.id hs hp
  have hsn : sn = L.length := by
    obtain ⟨r, cap, cur, e, _⟩ := ow.row1 hne
    injection e
  subst hsn
  have tok : True := trivial
  go_enter Tryz.func75, Tryz.ntmps75
  go_wp2_with (first | (clear tok; refine at_boxP (by rfl) _ (by rfl) p d n (by rfl) ?_; intro g1 w1 a1 a2 r1 b1))
  have hc1 := hc.later b1
  have wm1 := wm.later b1
  have hv' : (fw p.at').getD (.slice none 0 0) = .slice sa L.length sc := by rw [hv]; rfl
  refine wp_region_held_drew (S := fun u => Below w1.heap.size w1 u) (by kernel_rfl) (Below.refl _ _).drew (fun hHeld => ?_)
  refine wpAnyH_take (i := 0) (oi := { dst := some 7, op := Op.move (Operand.tmp 0), type := 24, pos := _, after := #[], guard := none }) (v := .pointer (some ⟨g, 0, none⟩)) rfl (by kernel_rfl) (by kernel_rfl) (by kernel_rfl) (fun _ _ _ h => h) (Or.inl ⟨by rfl, ?_⟩) hHeld ?_
  · intro u hu
    go_simp
  try simp only [Act.put, List.setIfInBounds_toArray, List.set_cons_zero, List.set_cons_succ]
  refine wpAnyH_take (i := 1) (oi := { dst := some 8, op := Op.nilCheck (Operand.tmp 7), type := 0, pos := _, after := #[{ on := 0, ground := Ground.data }], guard := none }) (v := .pointer (some ⟨g, 0, none⟩)) rfl (by kernel_rfl) (by kernel_rfl) (by kernel_rfl) (fun _ _ _ h => h) (Or.inl ⟨by rfl, ?_⟩) hHeld ?_
  · intro u hu
    go_simp
  try simp only [Act.put, List.setIfInBounds_toArray, List.set_cons_zero, List.set_cons_succ]
  refine wpAnyH_take (i := 2) (oi := { dst := some 9, op := Op.fieldAddr 77 (Operand.tmp 8) 2, type := 0, pos := _, after := #[{ on := 1, ground := Ground.data }], guard := none }) (v := .pointer (some ⟨g, 2, none⟩)) rfl (by kernel_rfl) (by kernel_rfl) (by kernel_rfl) (fun _ _ _ h => h) (Or.inl ⟨by rfl, ?_⟩) hHeld ?_
  · intro u hu
    go_simp
  try simp only [Act.put, List.setIfInBounds_toArray, List.set_cons_zero, List.set_cons_succ]
  refine wpAnyH_take (i := 3) (oi := { dst := some 10, op := Op.load 75 (Operand.tmp 9), type := 75, pos := _, after := #[{ on := 2, ground := Ground.data }], guard := none }) (v := .map (some mw)) rfl (by kernel_rfl) (by kernel_rfl) (by kernel_rfl) (fun _ _ _ h => h) (Or.inl ⟨by rfl, ?_⟩) hHeld ?_
  · intro u hu
    have x1 := (hc1.later hu).cell 2 _ rfl; go_simp
  try simp only [Act.put, List.setIfInBounds_toArray, List.set_cons_zero, List.set_cons_succ]
  refine wpAnyH_take (i := 4) (oi := { dst := some 11, op := Op.fieldAddr 54 (Operand.tmp 3) 1, type := 0, pos := _, after := #[], guard := none }) (v := .pointer (some ⟨g1, 1, none⟩)) rfl (by kernel_rfl) (by kernel_rfl) (by kernel_rfl) (fun _ _ _ h => h) (Or.inl ⟨by rfl, ?_⟩) hHeld ?_
  · intro u hu
    go_simp
  try simp only [Act.put, List.setIfInBounds_toArray, List.set_cons_zero, List.set_cons_succ]
  refine wpAnyH_take (i := 5) (oi := { dst := some 12, op := Op.load 3 (Operand.tmp 11), type := 3, pos := _, after := #[{ on := 4, ground := Ground.data }], guard := none }) (v := .int .i64 p.at') rfl (by kernel_rfl) (by kernel_rfl) (by kernel_rfl) (fun _ _ _ h => h) (Or.inl ⟨by rfl, ?_⟩) hHeld ?_
  · intro u hu
    have x1 := (Pt.cells (r1.later hu)).2.1; go_simp
  try simp only [Act.put, List.setIfInBounds_toArray, List.set_cons_zero, List.set_cons_succ]
  refine wpAnyH_take (i := 6) (oi := { dst := some 13, op := Op.lookup 75 (Operand.tmp 10) (Operand.tmp 12) false, type := 23, pos := _, after := #[{ on := 3, ground := Ground.data }, { on := 5, ground := Ground.data }], guard := none }) (v := .slice sa L.length sc) rfl (by kernel_rfl) (by kernel_rfl) (by kernel_rfl) (fun _ _ _ h => h)
    (yields_M' 75 23 uWm _ zI (by rfl) _ _ (by rfl) mw fw (by rfl) p.at' (by rfl) hwf (fun u hu => wm1.later hu) _ hv') hHeld ?_
  try simp only [Act.put, List.setIfInBounds_toArray, List.set_cons_zero, List.set_cons_succ]
  refine wpAnyH_take (i := 7) (oi := { dst := some 4, op := Op.assign (Operand.tmp 13), type := 23, pos := _, after := #[{ on := 6, ground := Ground.data }, { on := 0, ground := Ground.phase }, { on := 1, ground := Ground.phase }, { on := 2, ground := Ground.phase }, { on := 3, ground := Ground.phase }, { on := 4, ground := Ground.phase }, { on := 5, ground := Ground.phase }, { on := 6, ground := Ground.phase }], guard := none }) (v := .slice sa L.length sc) rfl (by kernel_rfl) (by kernel_rfl) (by kernel_rfl) (fun _ _ _ h => h) (Or.inl ⟨by rfl, ?_⟩) hHeld ?_
  · intro u hu
    go_simp
  try simp only [Act.put, List.setIfInBounds_toArray, List.set_cons_zero, List.set_cons_succ]
  refine wpAnyH_done (by kernel_rfl) ?_ _
  have hc2 := hc1.later hHeld
  have wm2 := wm1.later hHeld
  have r2 := r1.later hHeld
  have b2 := bnext b1 hHeld (Nat.le_refl _)
  have ow2 := ow.later b2
  generalize w1.drew = w2 at *
  clear hc1 wm1 r1 hHeld
  by_cases h1 : L.length = 1
  · have e1 : L.filter (fun y => !(y == p.id)) = [] := by
      rw [← k2]
      have : L.countP (· < p.id) = 0 := by omega
      rw [this]
      simp [List.drop_eq_nil_of_le, h1]
    have h1' : (L.length : Int) = 1 := by omega
    have h1'' : Hid (L.length = 1) := h1
    clear h1 k1 k2 hl
    go_wp2_with fail
    refine wp_region_last (S := fun u => Below w2.heap.size w2 u) _ _ (by simp only [List.pop_toArray, List.dropLast_cons_cons, List.dropLast_singleton]; rfl) (by simp only [List.back?_toArray, List.getLast?_cons_cons, List.getLast?_singleton]; rfl) (by kernel_rfl) (by kernel_rfl) (Below.refl _ _).drew (fun hHeld => ?_)
    refine wpAnyH_take (i := 0) (oi := { dst := some 17, op := Op.move (Operand.tmp 0), type := 24, pos := _, after := #[], guard := none }) (v := .pointer (some ⟨g, 0, none⟩)) rfl (by kernel_rfl) (by kernel_rfl) (by kernel_rfl) (fun _ _ _ h => h) (Or.inl ⟨by rfl, ?_⟩) hHeld ?_
    · intro u hu
      go_simp
    try simp only [Act.put, List.setIfInBounds_toArray, List.set_cons_zero, List.set_cons_succ]
    refine wpAnyH_take (i := 1) (oi := { dst := some 18, op := Op.nilCheck (Operand.tmp 17), type := 0, pos := _, after := #[{ on := 0, ground := Ground.data }], guard := none }) (v := .pointer (some ⟨g, 0, none⟩)) rfl (by kernel_rfl) (by kernel_rfl) (by kernel_rfl) (fun _ _ _ h => h) (Or.inl ⟨by rfl, ?_⟩) hHeld ?_
    · intro u hu
      go_simp
    try simp only [Act.put, List.setIfInBounds_toArray, List.set_cons_zero, List.set_cons_succ]
    refine wpAnyH_take (i := 2) (oi := { dst := some 19, op := Op.fieldAddr 77 (Operand.tmp 18) 2, type := 0, pos := _, after := #[{ on := 1, ground := Ground.data }], guard := none }) (v := .pointer (some ⟨g, 2, none⟩)) rfl (by kernel_rfl) (by kernel_rfl) (by kernel_rfl) (fun _ _ _ h => h) (Or.inl ⟨by rfl, ?_⟩) hHeld ?_
    · intro u hu
      go_simp
    try simp only [Act.put, List.setIfInBounds_toArray, List.set_cons_zero, List.set_cons_succ]
    refine wpAnyH_take (i := 3) (oi := { dst := some 20, op := Op.load 75 (Operand.tmp 19), type := 75, pos := _, after := #[{ on := 2, ground := Ground.data }], guard := none }) (v := .map (some mw)) rfl (by kernel_rfl) (by kernel_rfl) (by kernel_rfl) (fun _ _ _ h => h) (Or.inl ⟨by rfl, ?_⟩) hHeld ?_
    · intro u hu
      have x1 := (hc2.later hu).cell 2 _ rfl; go_simp
    try simp only [Act.put, List.setIfInBounds_toArray, List.set_cons_zero, List.set_cons_succ]
    refine wpAnyH_take (i := 4) (oi := { dst := some 21, op := Op.fieldAddr 54 (Operand.tmp 3) 1, type := 0, pos := _, after := #[], guard := none }) (v := .pointer (some ⟨g1, 1, none⟩)) rfl (by kernel_rfl) (by kernel_rfl) (by kernel_rfl) (fun _ _ _ h => h) (Or.inl ⟨by rfl, ?_⟩) hHeld ?_
    · intro u hu
      go_simp
    try simp only [Act.put, List.setIfInBounds_toArray, List.set_cons_zero, List.set_cons_succ]
    refine wpAnyH_take (i := 5) (oi := { dst := some 22, op := Op.load 3 (Operand.tmp 21), type := 3, pos := _, after := #[{ on := 4, ground := Ground.data }], guard := none }) (v := .int .i64 p.at') rfl (by kernel_rfl) (by kernel_rfl) (by kernel_rfl) (fun _ _ _ h => h) (Or.inl ⟨by rfl, ?_⟩) hHeld ?_
    · intro u hu
      have x1 := (Pt.cells (r2.later hu)).2.1; go_simp
    try simp only [Act.put, List.setIfInBounds_toArray, List.set_cons_zero, List.set_cons_succ]
    refine wpAnyH_done (by kernel_rfl) ?_ _
    have wm3 := wm2.later hHeld
    have b3 := bnext b2 hHeld (Nat.le_refl _)
    generalize w2.drew = w3 at *
    show wpList _ _ _ [_] _ _
    refine at_drop (t := 75) (by rfl) _ _ (by rfl) (by rfl) (by rfl) (fun ty => wm3.drop u3 uWm hwf ty) ?_
    rintro w4 ⟨d5, d6⟩
    go_wp2_with fail
    first | go_end0 | refine bodyPost_ret (results_none rfl _ _ _) rfl ?_
    exact ⟨rfl, _, d5, (Stp.of_below b3 _).next (turned_stp d6) (fun x e => .inl (.inl e)), .inl ⟨e1, rfl⟩⟩
  · have h1' : ¬ (L.length : Int) = 1 := by omega
    have hS := fun u (hu : Below w2.heap.size w2 u) => search_own (ow2.later hu) p.id hl hs hne
    have hD := fun u (hu : Below w2.heap.size w2 u) => delete_own (ow2.later hu) (L.countP (· < p.id)) k1
    rw [k2] at hD
    have hne2 : L.filter (fun y => !(y == p.id)) ≠ [] := fun e => by
      rw [e] at k2
      have h5 : (L.take (L.countP (· < p.id)) ++ L.drop (L.countP (· < p.id) + 1)).length = L.length - 1 := by
        rw [List.length_append, List.length_take, List.length_drop]; omega
      rw [k2] at h5
      simp only [List.length_nil] at h5
      omega
    have hkb : (L.countP (· < p.id) : Int) + 1 ≤ 1000000 := by omega
    generalize hL0 : L.filter (fun y => !(y == p.id)) = L' at *
    have hLe : Hid (L.filter (fun y => !(y == p.id)) = L') := hL0
    clear hL0
    clear k2
    generalize L.countP (· < p.id) = kk at *
    obtain ⟨cc0, cc1, cc2, cc3, cc4, cc5, cc6, cc7, cc8⟩ := Pt.cells r2
    clear cc2 cc3 cc4 cc5 cc6 cc7 cc8 cc1
    have hk' : Hid (∀ k, (fw k).isSome → 0 ≤ k ∧ k < 2048) := hk
    have hD' : Hid (∀ u, Below w2.heap.size w2 u → Calls Tryz.prog 87 #[.slice sa L.length sc, .int .i64 (kk : Int), .int .i64 ((kk : Int) + 1)] u fun e w' => ∃ v', e = .returned v' ∧ OwV w' v' L' ∧ v'.ownBlock = (Value.slice sa L.length sc).ownBlock ∧ Stp (fun x => (Value.slice sa L.length sc).ownBlock = some x) u w') := hD
    have hne2' : Hid (L' ≠ []) := hne2
    obtain ⟨bb, hbb⟩ : ∃ bb, bb = L.contains p.id := ⟨_, rfl⟩
    have hS' : Hid (∀ u, Below w2.heap.size w2 u → Calls Tryz.prog 81 #[.slice sa L.length sc, .int .i64 p.id] u fun e w' => e = .returned (.tuple #[.int .i64 (kk : Int), .bool bb]) ∧ Below u.heap.size u w') := by rw [hbb]; exact hS
    clear hS hbb
    have hkb' : Hid (IntKind.i64.wrap ((kk : Int) + 1) = (kk : Int) + 1) := by show _ = _; rw [IntKind.wrap_i64]; omega
    clear hkb k1 hl
    clear hk hD hne2 hs hp hv hv' hne
    go_wp2_with (first
      | (go_at_call 81; refine (hS'.out _ (Below.refl _ _)).mono ?_; rintro e w3 ⟨rfl, b3⟩))
    have hc3 := hc2.later b3
    have wm3 := wm2.later b3
    have r3 := r2.later b3
    have b9 := bnext b2 b3 (Nat.le_refl _)
    have ow3 := ow2.later b3
    have hDk := hD'.out w3.drew (bnext (Below.refl _ _) ((b3).drew) (Nat.le_refl _))
    have hg1 : (Value.slice sa L.length sc).ownBlock ≠ some g1 := fun e => by
      have := ow.lt e
      omega
    have hmw := ow3.map_ne wm3
    have hkb2 := hkb'.out
    refine wp_region_last (S := fun u => Stp (fun x => (Value.slice sa L.length sc).ownBlock = some x) w3 u) _ _ (by simp only [List.pop_toArray, List.dropLast_cons_cons, List.dropLast_singleton]; rfl) (by simp only [List.back?_toArray, List.getLast?_cons_cons, List.getLast?_singleton]; rfl) (by kernel_rfl) (by kernel_rfl) (Stp.refl _ _).drew (fun hHeld => ?_)
    refine wpAnyH_take (i := 0) (oi := { dst := some 30, op := Op.move (Operand.tmp 0), type := 24, pos := _, after := #[], guard := none }) (v := .pointer (some ⟨g, 0, none⟩)) rfl (by kernel_rfl) (by kernel_rfl) (by kernel_rfl) (fun _ _ _ h => h) (Or.inl ⟨by rfl, ?_⟩) hHeld ?_
    · intro u hu
      go_simp
    try simp only [Act.put, List.setIfInBounds_toArray, List.set_cons_zero, List.set_cons_succ]
    refine wpAnyH_take (i := 1) (oi := { dst := some 31, op := Op.nilCheck (Operand.tmp 30), type := 0, pos := _, after := #[{ on := 0, ground := Ground.data }], guard := none }) (v := .pointer (some ⟨g, 0, none⟩)) rfl (by kernel_rfl) (by kernel_rfl) (by kernel_rfl) (fun _ _ _ h => h) (Or.inl ⟨by rfl, ?_⟩) hHeld ?_
    · intro u hu
      go_simp
    try simp only [Act.put, List.setIfInBounds_toArray, List.set_cons_zero, List.set_cons_succ]
    refine wpAnyH_take (i := 2) (oi := { dst := some 32, op := Op.fieldAddr 77 (Operand.tmp 31) 2, type := 0, pos := _, after := #[{ on := 1, ground := Ground.data }], guard := none }) (v := .pointer (some ⟨g, 2, none⟩)) rfl (by kernel_rfl) (by kernel_rfl) (by kernel_rfl) (fun _ _ _ h => h) (Or.inl ⟨by rfl, ?_⟩) hHeld ?_
    · intro u hu
      go_simp
    try simp only [Act.put, List.setIfInBounds_toArray, List.set_cons_zero, List.set_cons_succ]
    refine wpAnyH_take (i := 3) (oi := { dst := some 33, op := Op.load 75 (Operand.tmp 32), type := 75, pos := _, after := #[{ on := 2, ground := Ground.data }], guard := none }) (v := .map (some mw)) rfl (by kernel_rfl) (by kernel_rfl) (by kernel_rfl) (fun _ _ _ h => h) (Or.inl ⟨by rfl, ?_⟩) hHeld ?_
    · intro u hu
      have x1 := (hc3.step hu hg).cell 2 _ rfl; go_simp
    try simp only [Act.put, List.setIfInBounds_toArray, List.set_cons_zero, List.set_cons_succ]
    refine wpAnyH_take (i := 4) (oi := { dst := some 34, op := Op.fieldAddr 54 (Operand.tmp 3) 1, type := 0, pos := _, after := #[], guard := none }) (v := .pointer (some ⟨g1, 1, none⟩)) rfl (by kernel_rfl) (by kernel_rfl) (by kernel_rfl) (fun _ _ _ h => h) (Or.inl ⟨by rfl, ?_⟩) hHeld ?_
    · intro u hu
      go_simp
    try simp only [Act.put, List.setIfInBounds_toArray, List.set_cons_zero, List.set_cons_succ]
    refine wpAnyH_take (i := 5) (oi := { dst := some 35, op := Op.load 3 (Operand.tmp 34), type := 3, pos := _, after := #[{ on := 4, ground := Ground.data }], guard := none }) (v := .int .i64 p.at') rfl (by kernel_rfl) (by kernel_rfl) (by kernel_rfl) (fun _ _ _ h => h) (Or.inl ⟨by rfl, ?_⟩) hHeld ?_
    · intro u hu
      have x1 := (Pt.cells (r3.step hu hg1)).2.1; go_simp
    try simp only [Act.put, List.setIfInBounds_toArray, List.set_cons_zero, List.set_cons_succ]
    refine wpAnyH_take (i := 6) (oi := { dst := some 36, op := Op.move (Operand.tmp 4), type := 23, pos := _, after := #[], guard := none }) (v := .slice sa L.length sc) rfl (by kernel_rfl) (by kernel_rfl) (by kernel_rfl) (fun _ _ _ h => h) (Or.inl ⟨by rfl, ?_⟩) hHeld ?_
    · intro u hu
      go_simp
    try simp only [Act.put, List.setIfInBounds_toArray, List.set_cons_zero, List.set_cons_succ]
    refine wpAnyH_take (i := 7) (oi := { dst := some 37, op := Op.move (Operand.tmp 5), type := 3, pos := _, after := #[], guard := none }) (v := .int .i64 (kk : Int)) rfl (by kernel_rfl) (by kernel_rfl) (by kernel_rfl) (fun _ _ _ h => h) (Or.inl ⟨by rfl, ?_⟩) hHeld ?_
    · intro u hu
      go_simp
    try simp only [Act.put, List.setIfInBounds_toArray, List.set_cons_zero, List.set_cons_succ]
    refine wpAnyH_take (i := 8) (oi := { dst := some 38, op := Op.move (Operand.tmp 5), type := 3, pos := _, after := #[], guard := none }) (v := .int .i64 (kk : Int)) rfl (by kernel_rfl) (by kernel_rfl) (by kernel_rfl) (fun _ _ _ h => h) (Or.inl ⟨by rfl, ?_⟩) hHeld ?_
    · intro u hu
      go_simp
    try simp only [Act.put, List.setIfInBounds_toArray, List.set_cons_zero, List.set_cons_succ]
    refine wpAnyH_take (i := 9) (oi := { dst := some 39, op := Op.binOp BinOp.add 3 (Operand.tmp 38) (Operand.const (Value.int IntKind.i64 1)) 3, type := 3, pos := _, after := #[{ on := 8, ground := Ground.data }], guard := none }) (v := .int .i64 ((kk : Int) + 1)) rfl (by kernel_rfl) (by kernel_rfl) (by kernel_rfl) (fun _ _ _ h => h) (Or.inl ⟨by rfl, ?_⟩) hHeld ?_
    · intro u hu
      go_simp
    try simp only [Act.put, List.setIfInBounds_toArray, List.set_cons_zero, List.set_cons_succ]
    refine wpAnyH_ready (rs := [10]) (by kernel_rfl) (by simp) ?_
    refine (AllReadyH.cons (o := { dst := some 40, op := Op.call { callee := Callee.value (Operand.func 87), args := #[Operand.tmp 36, Operand.tmp 37, Operand.tmp 39], argTypes := #[23, 3, 3] }, type := 23, pos := _, after := #[{ on := 6, ground := Ground.data }, { on := 7, ground := Ground.data }, { on := 9, ground := Ground.data }], guard := none }) rfl (fun K hK => ?_) AllReadyH.nil)
    go_simp
    refine hDk.mono ?_
    rintro e w4 ⟨v', rfl, o4, e4, s4⟩
    try go_wp2_with fail
    have s40 := (Stp.refl (fun x => (Value.slice sa L.length sc).ownBlock = some x) w3).drew.trans s4
    refine hK.out _ _ (s40) (fun hHeld => ?_)
    clear hK K
    try simp only [Act.put, List.setIfInBounds_toArray, List.set_cons_zero, List.set_cons_succ]
    refine wpAnyH_done (by kernel_rfl) ?_ _
    show wpList _ _ _ [_] _ _
    refine at_updM 75 23 uWm (by rfl) _ _ _ (by rfl) mw fw (by rfl) p.at' (by rfl) v' (by rfl) (wm3.step s40 hmw) hk'.out hwf ?_
    intro w5 m5 t5
    go_wp2_with fail
    first | go_end0 | refine bodyPost_ret (results_none rfl _ _ _) rfl ?_
    rw [hLe.out]
    refine ⟨rfl, _, m5, ((Stp.of_below b9 _).next s40 (fun x e => .inl (.inr e))).next t5 (fun x e => .inl (.inl e)), .inr ⟨hne2'.out, v', rfl, ?_, e4⟩⟩
    exact o4.step t5 (fun r hr e => hmw (by rw [← e4, hr, e]))
end Go.Proofs.YtdfifneikmlmoaaGreat
