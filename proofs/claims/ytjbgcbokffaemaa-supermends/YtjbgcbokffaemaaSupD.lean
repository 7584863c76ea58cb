/-
  What the document's Put of layer 8 returns, for every shape: no statement is proved here.
-/
import Derived.Test.YtjbgcbokffaemaaSupC
import Derived.Test.YtjbgcbokffaemaaSealG
namespace Go.Proofs.Ytjbgcbokffaemaa
open Go.ChangeShapes Go.WideShapes Go.ChangeAt Go.RowKit
set_option linter.unusedVariables false

theorem Own.of {B : Nat} (w : World) (l : List UInt8) (cs : List Value) (hc : cells l = cs) (hB : B ≤ w.heap.size) (hm : l.length ≤ 1000) : Own B (w.alloc (.cells cs.toArray 5)) w.heap.size l.length l := by
  subst hc
  exact ⟨by simp, .inr ⟨w.heap.size, l.length, (cells l).toArray, rfl, hB, heap_alloc_new w _, Nat.le_refl _, by unfold maxLen; omega, by simp, by rw [List.take_of_length_le (by simp)]⟩⟩
/-- The first k bytes, and noughts, 54 in all. -/
def mixN (l : List UInt8) (k : Nat) : List UInt8 := l.take k ++ List.replicate (54 - k) 0
theorem mixN_len {l : List UInt8} {k : Nat} (h : k ≤ l.length) (hk : k ≤ 54) : (mixN l k).length = 54 := by unfold mixN; simp; omega
theorem mixN_set {l : List UInt8} {k : Nat} (h : k < l.length) (hk : k < 54) : (mixN l k).set k (l.getD k 0) = mixN l (k + 1) := by
  have e : l.take (k + 1) = l.take k ++ [l.getD k 0] := by rw [List.take_add_one, List.getD_eq_getElem?_getD, List.getElem?_eq_getElem (by omega)]; rfl
  unfold mixN
  rw [List.set_append_right _ _ (by rw [List.length_take]; omega), List.length_take, Nat.min_eq_left (by omega), Nat.sub_self, show 54 - k = (54 - (k + 1)) + 1 by omega, List.replicate_succ, List.set_cons_zero, e, List.append_assoc]; rfl
theorem Own.cell {B : Nat} {w : World} {g cap : Nat} {l : List UInt8} (h : Own B w g cap l) (i : Nat) (hi : i < l.length) : w.cell? ⟨g, i, none⟩ = some (.int .u8 ((l.getD i 0).toNat : Int)) := by
  have := h.range i (.int .u8 ((l.getD i 0).toNat : Int)) (by
    rw [List.getElem?_map, List.getElem?_eq_getElem hi, List.getD_eq_getElem?_getD, List.getElem?_eq_getElem hi]; rfl)
  rwa [Nat.zero_add] at this
theorem Own.step {B : Nat} {w w' : World} {g cap : Nat} {l : List UInt8} {F : Nat → Prop} (h : Own B w g cap l) (k : Stp F w w') (hg : ¬ F g) : Own B w' g cap l := by
  have hl := h.lt.2
  refine ⟨h.1, ?_⟩
  rcases h.2 with h2 | ⟨g', c', cur, e1, e2, e3, e4⟩
  · exact .inl h2
  · refine .inr ⟨g', c', cur, e1, e2, ?_, e4⟩
    have : g' = g := by injection e1 with e1; injection e1 with e1; injection e1 with e1; exact e1.symm
    subst this
    rw [k.block g' hl hg]; exact e3
theorem rput16_row (x : Nat) (w : World) (h : x < 65536) :
    Calls Try.prog 24 #[.int .u16 (x : Int)] w fun e w' => ∃ g, e = .returned (.slice (some ⟨g, 0, none⟩) 2 2) ∧ Row w' g (u2 x) ∧ Below w.heap.size w w' := by
  refine (rput16_any (x : Int) w (by omega) (by omega)).mono ?_
  rintro e w' ⟨rfl, rfl⟩
  refine ⟨_, rfl, ?_, (Below.refl _ _).alloc (Nat.le_refl _) _⟩
  have := Row.made w (u2 x) 5
  rwa [cells_u2 h] at this
set_option maxRecDepth 100000 in
set_option maxHeartbeats 1000000 in
theorem rsput_no (s : Gm) (w : World) (h : ¬ s.ok) :
    Calls Try.prog 8 #[gv s] w fun e w' => e = .returned (.tuple #[.agg Ld.zero.cs.toArray, .int .i64 2]) ∧ Below w.heap.size w w' := by
  have hc := rcheck_any s
  rw [show s.err = 2 from if_neg h] at hc
  go_enter Try.func8, Try.ntmps8
  go_wp2_with (first
    | (refine at_boxG (by rfl) _ (by rfl) s (by rfl) ?_; intro g1 w1 a1 z1 r1 b1)
    | (refine at_new 25 54 arrL (by rfl) (by rfl) ?_; intro gr w2 a2 z2 r2 b2)
    | (refine at_getG (by rfl) _ (by rfl) g1 (by rfl) s (r1.later b2) ?_)
    | (go_at_call 23; refine (hc _).mono ?_; rintro e w3 ⟨rfl, b3⟩)
    | (refine at_bldL (by rfl) (by rfl) ?_)
    | (refine at_put 25 54 arrL (by rfl) _ _ (by rfl) gr (by rfl) Ld.zero.l (by rfl) Ld.zero.len _ (r2.later b3) (by simp) ?_; intro w9 r9 s9))
  have S2 : Stp (fun x => w.heap.size ≤ x) w w3 := Stp.of_below (bnext (bnext b1 b2 (Nat.le_refl _)) b3 (Nat.le_refl _)) _
  have hgr : w.heap.size ≤ gr := by have := b1.size; omega
  refine bodyPost_ret (retAt arrL Try.results8 rfl rfl r9 Ld.zero.len) rfl ⟨rfl, (S2.next s9 (fun x hx => .inl (by subst hx; exact hgr))).below (Nat.le_refl _) (fun _ h => h)⟩
set_option maxRecDepth 100000 in
set_option maxHeartbeats 4000000 in
theorem rsput_yes (g i d : Nat) (w : World) (h : Gm.ok ⟨(g : Int), (i : Int), (d : Int)⟩) :
    Calls Try.prog 8 #[.agg #[.int .i64 (g : Int), .int .i64 (i : Int), .int .i64 (d : Int)]] w fun e w' => e = .returned (.tuple #[.agg (ldP ⟨(g : Int), (i : Int), (d : Int)⟩).cs.toArray, .int .i64 0]) ∧ Below w.heap.size w w' := by
  have hc := rcheck_any ⟨(g : Int), (i : Int), (d : Int)⟩
  rw [show Gm.err ⟨(g : Int), (i : Int), (d : Int)⟩ = 0 from if_pos h] at hc
  have hg : g < 65536 := by unfold Gm.ok at h; simp only at h; omega
  have hi : i < 65536 := by unfold Gm.ok at h; simp only at h; omega
  have hd : d < 65536 := by unfold Gm.ok at h; simp only at h; omega
  clear h
  have hWg : IntKind.u16.wrap (g : Int) = (g : Int) := by rw [IntKind.wrap_u16]; omega
  have hWi : IntKind.u16.wrap (i : Int) = (i : Int) := by rw [IntKind.wrap_u16]; omega
  have hWd : IntKind.u16.wrap (d : Int) = (d : Int) := by rw [IntKind.wrap_u16]; omega
  have hlp := (ldP ⟨(g : Int), (i : Int), (d : Int)⟩).len
  go_enter Try.func8, Try.ntmps8
  go_wp2_with (first
    | (refine at_boxG (by rfl) _ (by rfl) ⟨(g : Int), (i : Int), (d : Int)⟩ (by rfl) ?_; intro g1 w1 a1 z1 r1 b1)
    | (refine at_new 25 54 arrL (by rfl) (by rfl) ?_; intro gr w2 a2 z2 r2 b2)
    | (refine at_getG (by rfl) _ (by rfl) g1 (by rfl) ⟨(g : Int), (i : Int), (d : Int)⟩ (r1.later b2) ?_)
    | (go_at_call 23; refine (hc _).mono ?_; rintro e w3 ⟨rfl, b3⟩))
  have q3 : GR w3 g1 ⟨(g : Int), (i : Int), (d : Int)⟩ := (r1.later b2).later b3
  have p3 : Row w3 gr (List.replicate 54 0) := r2.later b3
  have B3 : Below w.heap.size w w3 := bnext (bnext b1 b2 (Nat.le_refl _)) b3 (Nat.le_refl _)
  have l1 : g1 < w3.heap.size := q3.lt
  have l2 : gr < w3.heap.size := p3.lt
  have hgr : w.heap.size ≤ gr := by have := b1.size; omega
  clear a1 z1 a2 z2 r1 r2 b1 b2 b3 hc
  clear w1 w2
  have o0 : Own w3.heap.size _ w3.heap.size 4 [83, 67, 85, 80] := Own.of w3 [83, 67, 85, 80] [.int .u8 83, .int .u8 67, .int .u8 85, .int .u8 80] rfl (Nat.le_refl _) (by simp)
  have S0 : Stp (fun x => w3.heap.size ≤ x) w3 _ := Stp.of_alloc w3 (.cells #[.int .u8 83, .int .u8 67, .int .u8 85, .int .u8 80] 5) _
  have gq : ∀ u, Stp (fun x => w3.heap.size ≤ x) w3 u → GR u g1 ⟨(g : Int), (i : Int), (d : Int)⟩ := fun u hu => q3.step hu (by omega)
  generalize w3.alloc (.cells #[.int .u8 83, .int .u8 67, .int .u8 85, .int .u8 80] 5) = W at *
  have oc := o0.later ((Below.refl _ W).drew)
  clear o0
  refine wp_region_held_drew (S := fun u => Stp (fun x => w3.heap.size ≤ x) w3 u) (by kernel_rfl) S0.drew (fun hHeld => ?_)
  clear S0
  refine wpAnyH_take (i := 0) (oi := { dst := some 15, op := Op.move (Operand.tmp 5), type := 58, pos := _, after := #[], guard := none }) (v := .slice (some ⟨w3.heap.size, 0, none⟩) 4 4) rfl (by kernel_rfl) (by kernel_rfl) (by kernel_rfl) (fun _ _ _ h => h) (Or.inl ⟨by rfl, ?_⟩) hHeld ?_
  · intro u hu
    go_simp
  try simp only [Act.put, List.setIfInBounds_toArray, List.set_cons_zero, List.set_cons_succ]
  refine wpAnyH_take (i := 1) (oi := { dst := some 16, op := Op.fieldAddr 23 (Operand.tmp 1) 0, type := 0, pos := _, after := #[], guard := none }) (v := .pointer (some ⟨g1, 0, none⟩)) rfl (by kernel_rfl) (by kernel_rfl) (by kernel_rfl) (fun _ _ _ h => h) (Or.inl ⟨by rfl, ?_⟩) hHeld ?_
  · intro u hu
    go_simp
  try simp only [Act.put, List.setIfInBounds_toArray, List.set_cons_zero, List.set_cons_succ]
  refine wpAnyH_take (i := 2) (oi := { dst := some 17, op := Op.load 3 (Operand.tmp 16), type := 3, pos := _, after := #[{ on := 1, ground := Ground.data }], guard := none }) (v := .int .i64 (g : Int)) rfl (by kernel_rfl) (by kernel_rfl) (by kernel_rfl) (fun _ _ _ h => h) (Or.inl ⟨by rfl, ?_⟩) hHeld ?_
  · intro u hu
    (have c := (gq u hu).c0; go_simp)
  try simp only [Act.put, List.setIfInBounds_toArray, List.set_cons_zero, List.set_cons_succ]
  refine wpAnyH_take (i := 3) (oi := { dst := some 18, op := Op.convert 3 62 (Operand.tmp 17), type := 62, pos := _, after := #[{ on := 2, ground := Ground.data }], guard := none }) (v := .int .u16 (g : Int)) rfl (by kernel_rfl) (by kernel_rfl) (by kernel_rfl) (fun _ _ _ h => h) (Or.inl ⟨by rfl, ?_⟩) hHeld ?_
  · intro u hu
    go_simp
  try simp only [Act.put, List.setIfInBounds_toArray, List.set_cons_zero, List.set_cons_succ]
  refine wpAnyH_take (i := 6) (oi := { dst := some 21, op := Op.fieldAddr 23 (Operand.tmp 1) 1, type := 0, pos := _, after := #[], guard := none }) (v := .pointer (some ⟨g1, 1, none⟩)) rfl (by kernel_rfl) (by kernel_rfl) (by kernel_rfl) (fun _ _ _ h => h) (Or.inl ⟨by rfl, ?_⟩) hHeld ?_
  · intro u hu
    go_simp
  try simp only [Act.put, List.setIfInBounds_toArray, List.set_cons_zero, List.set_cons_succ]
  refine wpAnyH_take (i := 7) (oi := { dst := some 22, op := Op.load 3 (Operand.tmp 21), type := 3, pos := _, after := #[{ on := 6, ground := Ground.data }], guard := none }) (v := .int .i64 (i : Int)) rfl (by kernel_rfl) (by kernel_rfl) (by kernel_rfl) (fun _ _ _ h => h) (Or.inl ⟨by rfl, ?_⟩) hHeld ?_
  · intro u hu
    (have c := (gq u hu).c1; go_simp)
  try simp only [Act.put, List.setIfInBounds_toArray, List.set_cons_zero, List.set_cons_succ]
  refine wpAnyH_take (i := 8) (oi := { dst := some 23, op := Op.convert 3 62 (Operand.tmp 22), type := 62, pos := _, after := #[{ on := 7, ground := Ground.data }], guard := none }) (v := .int .u16 (i : Int)) rfl (by kernel_rfl) (by kernel_rfl) (by kernel_rfl) (fun _ _ _ h => h) (Or.inl ⟨by rfl, ?_⟩) hHeld ?_
  · intro u hu
    go_simp
  try simp only [Act.put, List.setIfInBounds_toArray, List.set_cons_zero, List.set_cons_succ]
  refine wpAnyH_take (i := 11) (oi := { dst := some 26, op := Op.fieldAddr 23 (Operand.tmp 1) 2, type := 0, pos := _, after := #[], guard := none }) (v := .pointer (some ⟨g1, 2, none⟩)) rfl (by kernel_rfl) (by kernel_rfl) (by kernel_rfl) (fun _ _ _ h => h) (Or.inl ⟨by rfl, ?_⟩) hHeld ?_
  · intro u hu
    go_simp
  try simp only [Act.put, List.setIfInBounds_toArray, List.set_cons_zero, List.set_cons_succ]
  refine wpAnyH_take (i := 12) (oi := { dst := some 27, op := Op.load 3 (Operand.tmp 26), type := 3, pos := _, after := #[{ on := 11, ground := Ground.data }], guard := none }) (v := .int .i64 (d : Int)) rfl (by kernel_rfl) (by kernel_rfl) (by kernel_rfl) (fun _ _ _ h => h) (Or.inl ⟨by rfl, ?_⟩) hHeld ?_
  · intro u hu
    (have c := (gq u hu).c2; go_simp)
  try simp only [Act.put, List.setIfInBounds_toArray, List.set_cons_zero, List.set_cons_succ]
  refine wpAnyH_take (i := 13) (oi := { dst := some 28, op := Op.convert 3 62 (Operand.tmp 27), type := 62, pos := _, after := #[{ on := 12, ground := Ground.data }], guard := none }) (v := .int .u16 (d : Int)) rfl (by kernel_rfl) (by kernel_rfl) (by kernel_rfl) (fun _ _ _ h => h) (Or.inl ⟨by rfl, ?_⟩) hHeld ?_
  · intro u hu
    go_simp
  try simp only [Act.put, List.setIfInBounds_toArray, List.set_cons_zero, List.set_cons_succ]
  refine wpAnyH_ready (rs := [4]) (by kernel_rfl) (by simp) ?_
  refine (AllReadyH.cons (o := { dst := some 19, op := Op.call { callee := Callee.value (Operand.func 24), args := #[Operand.tmp 18], argTypes := #[62] }, type := 58, pos := _, after := #[{ on := 3, ground := Ground.data }], guard := none }) rfl (fun K hK => ?_) AllReadyH.nil)
  go_simp
  refine (rput16_row g _ hg).mono ?_
  rintro e v4 ⟨n4, rfl, r4, b4⟩
  try go_wp2_with fail
  have oc := oc.later b4
  refine hK.out _ _ (hHeld.next (Stp.of_below b4 (fun _ => False)) (fun _ h => h.elim)) (fun hHeld => ?_)
  clear hK K
  try simp only [Act.put, List.setIfInBounds_toArray, List.set_cons_zero, List.set_cons_succ]
  refine wpAnyH_ready (rs := [5]) (by kernel_rfl) (by simp) ?_
  refine (AllReadyH.cons (o := { dst := some 20, op := Op.call { callee := Callee.builtin Builtin.append, args := #[Operand.tmp 15, Operand.tmp 19], argTypes := #[58, 58] }, type := 58, pos := _, after := #[{ on := 0, ground := Ground.data }, { on := 4, ground := Ground.data }, { on := 4, ground := Ground.chain }], guard := none }) rfl (fun K hK => ?_) AllReadyH.nil)
  refine step_app rfl (.tmp 15) (.tmp 19) rfl 4 (by rfl) oc rfl ⟨n4, 0, none⟩ 2 2 (u2 g) (by rfl) rfl 6 rfl (fun j u hj => by rw [Addr.add_mid]; exact r4.range j u hj) (by simp [u2]) hHeld.size ?_
  intro g5 c5 w5 o5 s5
  refine hK.out _ _ (hHeld.next s5 (fun _ h => .inl h)) (fun hHeld => ?_)
  clear hK K
  try simp only [Act.put, List.setIfInBounds_toArray, List.set_cons_zero, List.set_cons_succ]
  refine wpAnyH_ready (rs := [9]) (by kernel_rfl) (by simp) ?_
  refine (AllReadyH.cons (o := { dst := some 24, op := Op.call { callee := Callee.value (Operand.func 24), args := #[Operand.tmp 23], argTypes := #[62] }, type := 58, pos := _, after := #[{ on := 8, ground := Ground.data }, { on := 5, ground := Ground.chain }], guard := none }) rfl (fun K hK => ?_) AllReadyH.nil)
  go_simp
  refine (rput16_row i _ hi).mono ?_
  rintro e v9 ⟨n9, rfl, r9, b9⟩
  try go_wp2_with fail
  have o9 := o5.later b9
  refine hK.out _ _ (hHeld.next (Stp.of_below b9 (fun _ => False)) (fun _ h => h.elim)) (fun hHeld => ?_)
  clear hK K
  try simp only [Act.put, List.setIfInBounds_toArray, List.set_cons_zero, List.set_cons_succ]
  refine wpAnyH_ready (rs := [10]) (by kernel_rfl) (by simp) ?_
  refine (AllReadyH.cons (o := { dst := some 25, op := Op.call { callee := Callee.builtin Builtin.append, args := #[Operand.tmp 20, Operand.tmp 24], argTypes := #[58, 58] }, type := 58, pos := _, after := #[{ on := 5, ground := Ground.data }, { on := 9, ground := Ground.data }, { on := 9, ground := Ground.chain }], guard := none }) rfl (fun K hK => ?_) AllReadyH.nil)
  refine step_app rfl (.tmp 20) (.tmp 24) rfl 6 (by rfl) o9 rfl ⟨n9, 0, none⟩ 2 2 (u2 i) (by rfl) rfl 8 rfl (fun j u hj => by rw [Addr.add_mid]; exact r9.range j u hj) (by simp [u2]) hHeld.size ?_
  intro g10 c10 w10 o10 s10
  refine hK.out _ _ (hHeld.next s10 (fun _ h => .inl h)) (fun hHeld => ?_)
  clear hK K
  try simp only [Act.put, List.setIfInBounds_toArray, List.set_cons_zero, List.set_cons_succ]
  refine wpAnyH_ready (rs := [14]) (by kernel_rfl) (by simp) ?_
  refine (AllReadyH.cons (o := { dst := some 29, op := Op.call { callee := Callee.value (Operand.func 24), args := #[Operand.tmp 28], argTypes := #[62] }, type := 58, pos := _, after := #[{ on := 13, ground := Ground.data }, { on := 10, ground := Ground.chain }], guard := none }) rfl (fun K hK => ?_) AllReadyH.nil)
  go_simp
  refine (rput16_row d _ hd).mono ?_
  rintro e v14 ⟨n14, rfl, r14, b14⟩
  try go_wp2_with fail
  have o14 := o10.later b14
  refine hK.out _ _ (hHeld.next (Stp.of_below b14 (fun _ => False)) (fun _ h => h.elim)) (fun hHeld => ?_)
  clear hK K
  try simp only [Act.put, List.setIfInBounds_toArray, List.set_cons_zero, List.set_cons_succ]
  refine wpAnyH_ready (rs := [15]) (by kernel_rfl) (by simp) ?_
  refine (AllReadyH.cons (o := { dst := some 30, op := Op.call { callee := Callee.builtin Builtin.append, args := #[Operand.tmp 25, Operand.tmp 29], argTypes := #[58, 58] }, type := 58, pos := _, after := #[{ on := 10, ground := Ground.data }, { on := 14, ground := Ground.data }, { on := 14, ground := Ground.chain }], guard := none }) rfl (fun K hK => ?_) AllReadyH.nil)
  refine step_app rfl (.tmp 25) (.tmp 29) rfl 8 (by rfl) o14 rfl ⟨n14, 0, none⟩ 2 2 (u2 d) (by rfl) rfl 10 rfl (fun j u hj => by rw [Addr.add_mid]; exact r14.range j u hj) (by simp [u2]) hHeld.size ?_
  intro g15 c15 w15 o15 s15
  refine hK.out _ _ (hHeld.next s15 (fun _ h => .inl h)) (fun hHeld => ?_)
  clear hK K
  try simp only [Act.put, List.setIfInBounds_toArray, List.set_cons_zero, List.set_cons_succ]
  refine wpAnyH_take (i := 16) (oi := { dst := some 5, op := Op.assign (Operand.tmp 30), type := 58, pos := _, after := #[{ on := 15, ground := Ground.data }, { on := 15, ground := Ground.chain }, { on := 0, ground := Ground.phase }, { on := 1, ground := Ground.phase }, { on := 2, ground := Ground.phase }, { on := 3, ground := Ground.phase }, { on := 4, ground := Ground.phase }, { on := 5, ground := Ground.phase }, { on := 6, ground := Ground.phase }, { on := 7, ground := Ground.phase }, { on := 8, ground := Ground.phase }, { on := 9, ground := Ground.phase }, { on := 10, ground := Ground.phase }, { on := 11, ground := Ground.phase }, { on := 12, ground := Ground.phase }, { on := 13, ground := Ground.phase }, { on := 14, ground := Ground.phase }, { on := 15, ground := Ground.phase }], guard := none }) (v := .slice (some ⟨g15, 0, none⟩) 10 c15) rfl (by kernel_rfl) (by kernel_rfl) (by kernel_rfl) (fun _ _ _ h => h) (Or.inl ⟨by rfl, ?_⟩) hHeld ?_
  · intro u hu
    go_simp
  try simp only [Act.put, List.setIfInBounds_toArray, List.set_cons_zero, List.set_cons_succ]
  refine wpAnyH_done (by kernel_rfl) ?_ _
  clear oc o5 o9 o10 o14 r4 r9 r14 b4 b9 b14 s5 s10 s15
  have hD : ([83, 67, 85, 80] ++ u2 g ++ u2 i ++ u2 d).length = 10 := rfl
  have hM : Hid (mixN ([83, 67, 85, 80] ++ u2 g ++ u2 i ++ u2 d) 10 = (ldP ⟨(g : Int), (i : Int), (d : Int)⟩).l) := rfl
  generalize [83, 67, 85, 80] ++ u2 g ++ u2 i ++ u2 d = D at *
  have m15 := o15.lt
  have p15 : Row w15 gr (List.replicate 54 0) := p3.step hHeld (by omega)
  have S15 : Stp (fun x => w.heap.size ≤ x) w w15 := (Stp.of_below B3 _).next hHeld (fun x hx => .inl (by have := B3.size; omega))
  have T15 := hHeld.size
  clear hHeld gq q3 p3 B3
  go_wp2_with (first
    | (refine at_bldL (by rfl) (by rfl) ?_)
    | (refine at_new 25 54 arrL (by rfl) (by rfl) ?_; intro gp w4 a4 z4 r4 b4)
    | (refine at_put 25 54 arrL (by rfl) _ _ (by rfl) gp (by rfl) Ld.zero.l (by rfl) Ld.zero.len _ r4 (by simp) ?_; intro w5 r5 s5))
  have u5 : Own _ w5 g15 c15 D := (o15.later b4).step s5 (by omega)
  have q5 : Row w5 gr (List.replicate 54 0) := ((p15.later b4).step s5 (by omega))
  have S5 : Stp (fun x => w.heap.size ≤ x) w w5 := (S15.next (Stp.of_below b4 (fun _ => False)) (fun _ h => h.elim)).next s5 (fun x hx => .inl (by subst hx; have := S15.size; omega))
  have hgp : w.heap.size ≤ gp := by have := S15.size; omega
  have n1 : g15 ≠ gp := by omega
  have n2 : gr ≠ gp := by omega
  have m0 : Row w5 gp (mixN D 0) := r5
  clear o15 p15 S15 a4 z4 r4 b4 r5 s5
  go_loopw [7] (fun i wr => ∃ k : Nat, k ≤ 10 ∧ i = .int .i64 k ∧ Row wr gp (mixN D k) ∧ Stp (fun x => x = gp) w5 wr) (fun i _ => 10 - (intOf i).toNat)
  case atStart => exact ⟨0, Nat.zero_le _, rfl, m0, Stp.refl _ _⟩
  case round =>
    obtain ⟨k, hk4, rfl, mk, sk⟩ := hrel
    by_cases hlt : k < 10
    · have c1 : _ = some (Value.int .u8 _) := (u5.step sk n1).cell k (by omega)
      have c2 := mk.cell k (by rw [mixN_len (by omega) (by omega)]; omega)
      have f2 := mk.frozen k
      have mk' := mk.set k (D.getD k 0)
      rw [mixN_set (by omega) (by omega)] at mk'
      generalize hv : (((D.getD k 0).toNat : Nat) : Int) = v at *
      clear hv
      go_wp2_with fail
      go_roundw
      case rel => exact ⟨k + 1, by omega, by go_num, mk', sk.setCell (.inl rfl) _⟩
      case measure => simp [intOf]; omega
    · obtain rfl : k = 10 := by omega
      rw [hM.out] at mk
      have qk := q5.step sk n2
      have Sk := S5.next sk (fun x hx => .inl (by subst hx; exact hgp))
      go_wp2_with (first
        | (refine at_get 25 54 arrL (by rfl) _ (by rfl) gp (by rfl) _ mk hlp ?_)
        | (refine at_put 25 54 arrL (by rfl) _ _ (by rfl) gr (by rfl) (ldP ⟨(g : Int), (i : Int), (d : Int)⟩).l (by rfl) hlp _ qk (by simp) ?_; intro w9 r9 s9))
      refine bodyPost_ret (retAt arrL Try.results8 rfl rfl r9 hlp) rfl ⟨rfl, (Sk.next s9 (fun x hx => .inl (by subst hx; exact hgr))).below (Nat.le_refl _) (fun _ h => h)⟩
theorem rsput_any (s : Gm) (w : World) :
    Calls Try.prog 8 #[gv s] w fun e w' => e = .returned (.tuple #[.agg (spP s).cs.toArray, .int .i64 s.err]) ∧ Below w.heap.size w w' := by
  by_cases h : s.ok
  · rw [show s.err = 0 from if_pos h, show spP s = ldP s from if_pos h]
    obtain ⟨g, i, d, rfl⟩ := gm_nat h
    exact rsput_yes g i d w h
  · rw [show s.err = 2 from if_neg h, show spP s = Ld.zero from if_neg h]
    exact rsput_no s w h
end Go.Proofs.Ytjbgcbokffaemaa
