/-
  Texts of my own, joined: no statement is proved here.
-/
import Derived.Test.YtgdnhkdfcjpdiaaGreatDoorJay
import Derived.Test.YtgdnhkdfcjpdiaaGreatDoorJaz
set_option linter.unusedSimpArgs false
set_option linter.unusedVariables false
namespace Go.Proofs.YtgdnhkdfcjpdiaaGreatDoor
open Go.ChangeShapes Go.WideShapes Go.ChangeAt Go.RowKit
set_option maxRecDepth 100000
def by8 (l : List Int) : List UInt8 := l.map fun x => UInt8.ofNat x.toNat
theorem by8_len (l : List Int) : (by8 l).length = l.length := by unfold by8; simp
theorem ints_by8 {l : List Int} (h : ∀ x ∈ l, 0 ≤ x ∧ x ≤ 255) : ints (by8 l) = l := by
  unfold ints by8
  rw [List.map_map]
  refine (List.map_congr_left fun x hx => ?_).trans (List.map_id l)
  have := h x hx
  simp only [Function.comp, id]
  rw [u8_to (by omega)]; omega
theorem splice_ln {l c : List UInt8} {o : Nat} (h : o + c.length ≤ l.length) : (splice l o c).length = l.length := by
  unfold splice; simp; omega
theorem splice_none (l : List UInt8) (o : Nat) : splice l o [] = l := by unfold splice; simp
def mkB (l : List UInt8) : Blk := if h : l.length = 64 then ⟨l, h⟩ else Blk.zero
def mkL (l : List UInt8) : Ld := if h : l.length = 54 then ⟨l, h⟩ else Ld.zero
theorem mkB_l {l : List UInt8} (h : l.length = 64) : (mkB l).l = l := by unfold mkB; rw [dif_pos h]
theorem mkL_l {l : List UInt8} (h : l.length = 54) : (mkL l).l = l := by unfold mkL; rw [dif_pos h]
def room (p : Pt) : Int := if p.kind = 0 then 64 else 54
def rfit (p : Pt) : Bool := decide (0 ≤ p.kind) && decide (p.kind ≤ 6) && decide (0 ≤ p.off) && decide (p.off ≤ room p - (p.data.length : Int))
theorem rfit_to {p : Pt} (h : rfit p = true) : 0 ≤ p.kind ∧ p.kind ≤ 6 ∧ 0 ≤ p.off ∧ p.off ≤ room p - (p.data.length : Int) := by
  unfold rfit at h
  simp only [Bool.and_eq_true, decide_eq_true_eq] at h
  exact ⟨h.1.1.1, h.1.1.2, h.1.2, h.2⟩
def lyR (b : Blk) (p : Pt) : Blk := mkB (splice b.l p.off.toNat (by8 p.data))
def lyS (b : Blk) (p : Pt) : Ld := mkL (splice (gP p.kind b).l p.off.toNat (by8 p.data))
def lyB (b : Blk) (p : Pt) (t : Nat) : Blk := if rfit p = true then (if p.kind = 0 then lyR b p else pBS p.kind t (lyS b p)) else b
def lyE (p : Pt) : Int := if rfit p = true then 0 else 2
def ovB (t : Nat) (b : Blk) (l : List Pt) : Blk := l.foldl (fun x p => lyB x p t) b
def nwE (l : List Pt) : Int := if l.all rfit = true then 0 else 2
def nwB (b : Blk) (l : List Pt) : Blk := if l.all rfit = true then ovB (nT b) b l else b
theorem ovB_append (t : Nat) (b : Blk) (l m : List Pt) : ovB t b (l ++ m) = ovB t (ovB t b l) m := by unfold ovB; rw [List.foldl_append]
theorem lyR_l {b : Blk} {p : Pt} (h : rfit p = true) (hk : p.kind = 0) : (lyR b p).l = splice b.l p.off.toNat (by8 p.data) := by
  obtain ⟨h1, h2, h3, h4⟩ := rfit_to h
  unfold room at h4
  rw [if_pos hk] at h4
  have hb := b.len
  refine mkB_l ?_
  rw [splice_ln (by rw [by8_len]; omega)]; exact hb
theorem lyS_l {b : Blk} {p : Pt} (h : rfit p = true) (hk : p.kind ≠ 0) : (lyS b p).l = splice (gP p.kind b).l p.off.toNat (by8 p.data) := by
  obtain ⟨h1, h2, h3, h4⟩ := rfit_to h
  unfold room at h4
  rw [if_neg hk] at h4
  have hb := (gP p.kind b).len
  refine mkL_l ?_
  rw [splice_ln (by rw [by8_len]; omega)]; exact hb
theorem nwE_of {l : List Pt} (h : nwE l = 0) : l.all rfit = true := by
  unfold nwE at h
  by_cases hf : l.all rfit = true
  · exact hf
  · rw [if_neg hf] at h; cases h
theorem nwB_else {b : Blk} {l : List Pt} (h : nwE l ≠ 0) : nwB b l = b := by
  unfold nwE at h; unfold nwB
  by_cases hf : l.all rfit = true
  · rw [if_pos hf] at h; exact absurd rfl h
  · rw [if_neg hf]
set_option maxRecDepth 100000
def atEnd (n o : Nat) : Nat := if n = o then 0 else o
theorem run_subE {T n : Nat} (hT : Arr T n) (w : World) (g l : Nat) (h3 : l ≤ n) :
    (Instr.sliceAt T (.pointer (some ⟨g, 0, none⟩)) (some (.int .i64 (l : Int))) none none).run Tryz.prog w = .ok (.slice (some ⟨g, atEnd n l, none⟩) (n - l) (n - l)) w := by
  rw [run_sliceAt_array_l w T ⟨g, 0, none⟩ (undA hT) .i64 (l : Int) (by omega) (by rw [lenA hT]; omega), elemA hT, sizeU8, lenA hT]
  simp only [Result.andThen, slicedAt, Int.toNat_natCast]
  unfold atEnd
  split
  · rfl
  · rw [Addr.add_mid, Nat.mul_one, Nat.zero_add]
theorem run_copyS (w : World) (tp : TypeId) (g off dLen dCap o : Nat) (sv : Sv) (l l2 : List UInt8) (hR : Row w g l) (hB : BsS w sv (ints l2)) (h1 : sv.n ≤ dLen) (h2 : o + sv.n ≤ l.length) (ho : 0 < sv.n → off = o) :
    ∃ w', (Builtin.copy_ #[105, 105] tp #[.slice (some ⟨g, off, none⟩) dLen dCap, .slice sv.a sv.n sv.c]).run Tryz.prog w = .ok (goInt sv.n) w' ∧ Row w' g (splice l o l2) ∧ Stp (fun x => x = g) w w' := by
  have hlen : l2.length = sv.n := by have := hB.len; rwa [ints_len] at this
  rcases Nat.eq_zero_or_pos sv.n with h0 | h0
  · obtain rfl : l2 = [] := List.eq_nil_of_length_eq_zero (by omega)
    refine ⟨w, ?_, by rw [splice_none]; exact hR, Stp.refl _ _⟩
    rw [h0]
    exact run_copy_none (P := Tryz.prog) w _ _ tp 5 _ sv.a dLen dCap 0 sv.c (by kernel_rfl) (by kernel_rfl) (by simp)
  · obtain rfl := ho h0
    obtain ⟨b, off2, e, hc⟩ := hB.cell h0
    obtain ⟨t, hg⟩ := hR
    have hrun := run_copy_row (P := Tryz.prog) w 105 105 tp 5 g off dLen dCap ⟨b, off2, none⟩ sv.n sv.c (cells l).toArray t (cells l2) (by kernel_rfl) (by kernel_rfl) hg
      (by rw [List.length_map, hlen]; exact (Nat.min_eq_left h1).symm) (fun j v hv => by
        have hj := (List.getElem?_eq_some_iff.1 hv).1
        rw [List.length_map, hlen] at hj
        rw [Addr.add_mid, hc j hj, ints_getD, ← hv, List.getElem?_map, List.getElem?_eq_getElem (by omega), List.getD_eq_getElem?_getD, List.getElem?_eq_getElem (by omega)]
        rfl) (by rw [List.length_map, hlen]; simpa using h2) (cells_one _)
    have e2 : (List.take off (cells l).toArray.toList ++ cells l2 ++ List.drop (off + (cells l2).length) (cells l).toArray.toList) = cells (splice l off l2) := by
      unfold splice; simp [cells]
    rw [e2, List.length_map, hlen] at hrun
    refine ⟨_, by rw [e]; exact hrun, Row.setRow ⟨t, hg⟩ _, stp_setRow _ _ _⟩
theorem step_copyS {ops : Array Oper} {o : Oper} {a : Act} {w : World} {K : Act → World → Prop} {Q : Exit → Act → World → Prop} {E : Prop} (hgd : o.guard = none) (d s : Operand)
    (ho : o.op = .call { callee := .builtin .copy, args := #[d, s], argTypes := #[105, 105] }) (g off dLen dCap k : Nat) (sv : Sv)
    (hd : a.eval d = .slice (some ⟨g, off, none⟩) dLen dCap) (hs : a.eval s = .slice sv.a sv.n sv.c) (l l2 : List UInt8) (hR : Row w g l) (hB : BsS w sv (ints l2)) (h1 : sv.n ≤ dLen) (h2 : k + sv.n ≤ l.length) (hk : 0 < sv.n → off = k)
    (h : ∀ w', Row w' g (splice l k l2) → Stp (fun x => x = g) w w' → K (a.put o.dst (goInt sv.n)) w') :
    if Region.wanted o (yielded ops a.tmps) = true then Oper.wp Tryz.prog o a w K Q else E := by
  have hw : Region.wanted o (yielded ops a.tmps) = true := by simp [Region.wanted, hgd]
  rw [if_pos hw]
  obtain ⟨w', hrun, r1, r2⟩ := run_copyS w o.type g off dLen dCap k sv l l2 hR hB h1 h2 hk
  unfold Oper.wp
  simp only [execOp, ho, resolve, invoke, builtin]
  simp [hd, hs, hrun, Result.andThen]
  exact h _ r1 r2
set_option maxRecDepth 100000 in
set_option maxHeartbeats 2000000 in
theorem rfits_any (p : Pt) (d n : Sv) (w : World) (hp : p.wfp) (hd : BsS w d p.data) :
    Calls Tryz.prog 142 #[.agg (p.cs d n).toArray] w fun e w' => e = .returned (.bool (rfit p)) ∧ Below w.heap.size w w' := by
  have h2 := wfi_to hp.o
  have h3 := wfi_to hp.k
  have hlen := hd.len
  have hl : (0 : Int) ≤ (d.n : Int) := by omega
  have hl2 : (d.n : Int) ≤ 9223372036854775807 := by have := hd.le; have := hd.cap; unfold maxLen at this; omega
  have hE : Hid (rfit p = (decide (0 ≤ p.kind) && decide (p.kind ≤ 6) && decide (0 ≤ p.off) && decide (p.off ≤ (if p.kind = 0 then 64 else 54) - (d.n : Int)))) := by
    show _ = _; unfold rfit room; rw [hlen]
  clear hd hp hlen
  have tok : True := trivial
  go_enter Tryz.func142, Tryz.ntmps142
  go_wp2_with (first
    | (clear tok; refine at_boxP (by rfl) _ (by rfl) p d n (by rfl) ?_; intro g1 w1 a1 a2 r1 b1; obtain ⟨c0, c1, c2, c3, c4, c5, c6, c7, c8⟩ := Pt.cells r1; clear c0 c1 c5 c6 c7 c8))
  all_goals
    go_returns
    refine ⟨ret_bool ?_, b1⟩
    rw [hE.out]
    clear hE c2 c3 c4 r1 b1
    simp_all
    try omega
set_option maxRecDepth 100000
theorem gT_oK (b : Blk) : gT (oKS b : Nat) b = oT b := by
  by_cases h : oKS b = 0
  · rw [oT_none h]
    unfold gT gES
    rw [h]; rfl
  · exact gT_own h
set_option maxRecDepth 100000 in
set_option maxHeartbeats 2000000 in
theorem rload_anyR (b : Blk) (k : Int) (w : World) :
    Calls Tryz.prog 143 #[.agg b.cs.toArray, .int .i64 k] w fun e w' => e = .returned (.agg (gP k b).cs.toArray) ∧ Below w.heap.size w w' := by
  have H := get_anyS k b
  have hb := b.len
  have hq := (gP k b).len
  generalize gP k b = q at *
  generalize gT k b = t at *
  generalize gES k b = e0 at *
  have t1 : True := trivial
  have t2 : True := trivial
  have t3 : True := trivial
  go_enter Tryz.func143, Tryz.ntmps143
  go_wp2_with (first
    | (refine at_box 88 64 arrB (by rfl) _ (by rfl) b.l (by rfl) hb ?_; intro gb w1 a1 z1 r1 b1)
    | (clear t1; refine at_new 62 54 arrL (by rfl) (by rfl) ?_; intro gr w2 a2 z2 r2 b2)
    | (refine at_get 88 64 arrB (by rfl) _ (by rfl) gb (by rfl) _ (r1.later b2) hb ?_)
    | (go_at_call 38; refine (H _).mono ?_; rintro e w3 ⟨rfl, b3⟩)
    | (clear t2; refine at_new 62 54 arrL (by rfl) (by rfl) ?_; intro gp w4 a4 z4 r4 b4)
    | (clear t3; refine at_put 62 54 arrL (by rfl) _ _ (by rfl) gp (by rfl) q.l (by rfl) hq _ r4 (by simp) ?_; intro w5 r5 s5)
    | (refine at_get 62 54 arrL (by rfl) _ (by rfl) gp (by rfl) _ r5 hq ?_)
    | (refine at_put 62 54 arrL (by rfl) _ _ (by rfl) gr (by rfl) q.l (by rfl) hq _ (((r2.later b3).later b4).step s5 (by have := b3.size; omega)) (by simp) ?_; intro w9 r9 s9))
  have S4 : Stp (fun x => w.heap.size ≤ x) w w4 := Stp.of_below (bnext (bnext (bnext b1 b2 (Nat.le_refl _)) b3 (Nat.le_refl _)) b4 (Nat.le_refl _)) _
  have hgr : w.heap.size ≤ gr := by have := b1.size; omega
  have hgp : w.heap.size ≤ gp := by have := b1.size; have := b2.size; have := b3.size; omega
  have S5 := S4.next s5 (fun x hx => .inl (by subst hx; exact hgp))
  exact bodyPost_ret (retA arrL Tryz.results143 rfl r9 hq) rfl ⟨rfl, (S5.next s9 (fun x hx => .inl (by subst hx; exact hgr))).below (Nat.le_refl _) (fun _ h => h)⟩
set_option maxRecDepth 100000
set_option maxRecDepth 100000 in
set_option maxHeartbeats 4000000 in
theorem rturn_any (b : Blk) (w : World) :
    Calls Tryz.prog 120 #[.agg b.cs.toArray] w fun e w' => e = .returned (.int .u32 (nT b : Nat)) ∧ Below w.heap.size w w' := by
  have H := kind_any b
  have H2 := get_anyS (oKS b : Nat) b
  have hb := b.len
  rw [gT_oK] at H2
  have hn : IntKind.u32.wrap ((oT b : Int) + 1) = (nT b : Int) := nT_int b
  have hq := (gP (oKS b : Nat) b).len
  generalize gP (oKS b : Nat) b = q at *
  generalize gES (oKS b : Nat) b = e0 at *
  generalize oT b = t at *
  generalize nT b = t' at *
  generalize oKS b = k at *
  go_enter Tryz.func120, Tryz.ntmps120
  go_wp2_with (first
    | (refine at_box 88 64 arrB (by rfl) _ (by rfl) b.l (by rfl) hb ?_; intro gb W a1 z1 r b1))
  refine wp_region_held_drew (S := fun u => Below W.heap.size W u) (by kernel_rfl) (Below.refl _ _).drew (fun hHeld => ?_)
  rename_i K1 hK1
  have tail : ∀ g7 v8, Below W.heap.size W v8 →
      K1 ⟨#[.agg b.cs.toArray, .pointer (some ⟨gb, 0, none⟩), .int .u32 0, .pointer (some ⟨g7, 0, none⟩), .int .u32 (t : Int), .int .i64 e0, .tuple #[.agg q.cs.toArray, .int .u32 (t : Int), .int .i64 e0], .agg b.cs.toArray, .int .i64 (k : Int), .agg b.cs.toArray, .tuple #[.agg q.cs.toArray, .int .u32 (t : Int), .int .i64 e0], .agg q.cs.toArray, .int .u32 (t : Int), .int .i64 e0, undef, undef], []⟩ v8 := by
    intro g7 v8 hH8
    refine hK1 _ _ ?_
    have B8 := bnext b1 hH8 (Nat.le_refl _)
    clear r hH8 b1
    go_wp2_with fail
    go_returns
    exact ⟨rfl, B8⟩
  clear hK1 hn
  refine tm 0 (.agg b.cs.toArray) rfl
    (yields_row 88 64 arrB (by rfl) (.tmp 1) rfl gb (by rfl) b.l hb (fun u hu => r.later hu)) ?_
  try simp only [z]
  refine tm 2 (.agg b.cs.toArray) rfl
    (yields_row 88 64 arrB (by rfl) (.tmp 1) rfl gb (by rfl) b.l hb (fun u hu => r.later hu)) ?_
  try simp only [z]
  refine wpAnyH_ready (rs := [1, 8]) (by kernel_rfl) (by simp) ?_
  refine (AllReadyH.cons (o := ⟨some 8, .call { callee := Callee.value (.func 141), args := #[.tmp 7], argTypes := #[88] }, 3, _, #[⟨0, .data⟩], none⟩) rfl (fun K hK => ?_) (AllReadyH.cons (o := ⟨some 3, .alloc 62, 0, _, #[], none⟩) rfl (fun K hK => ?_) AllReadyH.nil))
  · skip
    go_simp
    refine (H _).mono ?_
    rintro e v1 ⟨rfl, c1⟩
    try go_wp2_with fail
    try (have y7 := y7.later c1)
    refine hK.out _ _ (bnext hHeld c1 (Nat.le_refl _)) (fun hHeld => ?_)
    clear hK K
    try simp only [z]
    refine wpAnyH_ready (rs := [3, 8]) (by kernel_rfl) (by simp) ?_
    refine (AllReadyH.cons (o := ⟨some 10, .call { callee := Callee.value (.func 38), args := #[.tmp 8, .tmp 9], argTypes := #[3, 88] }, 101, _, #[⟨1, .data⟩, ⟨2, .data⟩, ⟨1, .chain⟩], none⟩) rfl (fun K hK => ?_) (AllReadyH.cons (o := ⟨some 3, .alloc 62, 0, _, #[], none⟩) rfl (fun K hK => ?_) AllReadyH.nil))
    · skip
      go_simp
      refine (H2 _).mono ?_
      rintro e v3 ⟨rfl, c3⟩
      try go_wp2_with fail
      try (have y7 := y7.later c3)
      refine hK.out _ _ (bnext hHeld c3 (Nat.le_refl _)) (fun hHeld => ?_)
      clear hK K
      try simp only [z]
      refine tl 4 (.tuple #[.agg q.cs.toArray, .int .u32 (t : Int), .int .i64 e0]) rfl ?_
      try simp only [z]
      refine tl 5 (.agg q.cs.toArray) rfl ?_
      try simp only [z]
      refine tl 6 (.int .u32 (t : Int)) rfl ?_
      try simp only [z]
      refine tl 7 (.int .i64 e0) rfl ?_
      try simp only [z]
      refine rd 8 rfl (fun K hK => ?_)
      refine step_new 62 54 arrL rfl rfl ?_
      intro g7 v7 a7 z7 y7 b7
      have m7 : W.heap.size ≤ g7 := Nat.le_trans hHeld.size a7
      refine hK.out _ _ (bnext hHeld b7 (Nat.le_refl _)) (fun hHeld => ?_)
      clear hK K
      try simp only [z]
      refine rd 9 rfl (fun K hK => ?_)
      refine step_put 62 54 arrL rfl (.tmp 3) (.tmp 11) rfl g7 (by rfl) q.l (by rfl) hq _ y7 (by simp) ?_
      intro v8 y8 s8
      refine hK.out _ _ (((Stp.of_below hHeld (fun x => W.heap.size ≤ x)).next s8 (fun x hx => .inl (by subst hx; exact m7))).below (Nat.le_refl _) (fun _ h => h)) (fun hHeld => ?_)
      clear hK K
      try simp only [Act.put]
      refine tl 10 (.int .u32 (t : Int)) rfl ?_
      try simp only [z]
      refine tl 11 (.int .i64 e0) rfl ?_
      try simp only [z]
      refine wpAnyH_done (by kernel_rfl) ?_ _
      exact tail g7 v8 hHeld
    · skip
      refine step_new 62 54 arrL rfl rfl ?_
      intro g7 v7 a7 z7 y7 b7
      have m7 : W.heap.size ≤ g7 := Nat.le_trans hHeld.size a7
      refine hK.out _ _ (bnext hHeld b7 (Nat.le_refl _)) (fun hHeld => ?_)
      clear hK K
      try simp only [z]
      refine rd 3 rfl (fun K hK => ?_)
      go_simp
      refine (H2 _).mono ?_
      rintro e v3 ⟨rfl, c3⟩
      try go_wp2_with fail
      try (have y7 := y7.later c3)
      refine hK.out _ _ (bnext hHeld c3 (Nat.le_refl _)) (fun hHeld => ?_)
      clear hK K
      try simp only [z]
      refine tl 4 (.tuple #[.agg q.cs.toArray, .int .u32 (t : Int), .int .i64 e0]) rfl ?_
      try simp only [z]
      refine tl 5 (.agg q.cs.toArray) rfl ?_
      try simp only [z]
      refine tl 6 (.int .u32 (t : Int)) rfl ?_
      try simp only [z]
      refine tl 7 (.int .i64 e0) rfl ?_
      try simp only [z]
      refine rd 9 rfl (fun K hK => ?_)
      refine step_put 62 54 arrL rfl (.tmp 3) (.tmp 11) rfl g7 (by rfl) q.l (by rfl) hq _ y7 (by simp) ?_
      intro v8 y8 s8
      refine hK.out _ _ (((Stp.of_below hHeld (fun x => W.heap.size ≤ x)).next s8 (fun x hx => .inl (by subst hx; exact m7))).below (Nat.le_refl _) (fun _ h => h)) (fun hHeld => ?_)
      clear hK K
      try simp only [Act.put]
      refine tl 10 (.int .u32 (t : Int)) rfl ?_
      try simp only [z]
      refine tl 11 (.int .i64 e0) rfl ?_
      try simp only [z]
      refine wpAnyH_done (by kernel_rfl) ?_ _
      exact tail g7 v8 hHeld
  · skip
    refine step_new 62 54 arrL rfl rfl ?_
    intro g7 v7 a7 z7 y7 b7
    have m7 : W.heap.size ≤ g7 := Nat.le_trans hHeld.size a7
    refine hK.out _ _ (bnext hHeld b7 (Nat.le_refl _)) (fun hHeld => ?_)
    clear hK K
    try simp only [z]
    refine rd 1 rfl (fun K hK => ?_)
    go_simp
    refine (H _).mono ?_
    rintro e v1 ⟨rfl, c1⟩
    try go_wp2_with fail
    try (have y7 := y7.later c1)
    refine hK.out _ _ (bnext hHeld c1 (Nat.le_refl _)) (fun hHeld => ?_)
    clear hK K
    try simp only [z]
    refine rd 3 rfl (fun K hK => ?_)
    go_simp
    refine (H2 _).mono ?_
    rintro e v3 ⟨rfl, c3⟩
    try go_wp2_with fail
    try (have y7 := y7.later c3)
    refine hK.out _ _ (bnext hHeld c3 (Nat.le_refl _)) (fun hHeld => ?_)
    clear hK K
    try simp only [z]
    refine tl 4 (.tuple #[.agg q.cs.toArray, .int .u32 (t : Int), .int .i64 e0]) rfl ?_
    try simp only [z]
    refine tl 5 (.agg q.cs.toArray) rfl ?_
    try simp only [z]
    refine tl 6 (.int .u32 (t : Int)) rfl ?_
    try simp only [z]
    refine tl 7 (.int .i64 e0) rfl ?_
    try simp only [z]
    refine rd 9 rfl (fun K hK => ?_)
    refine step_put 62 54 arrL rfl (.tmp 3) (.tmp 11) rfl g7 (by rfl) q.l (by rfl) hq _ y7 (by simp) ?_
    intro v8 y8 s8
    refine hK.out _ _ (((Stp.of_below hHeld (fun x => W.heap.size ≤ x)).next s8 (fun x hx => .inl (by subst hx; exact m7))).below (Nat.le_refl _) (fun _ h => h)) (fun hHeld => ?_)
    clear hK K
    try simp only [Act.put]
    refine tl 10 (.int .u32 (t : Int)) rfl ?_
    try simp only [z]
    refine tl 11 (.int .i64 e0) rfl ?_
    try simp only [z]
    refine wpAnyH_done (by kernel_rfl) ?_ _
    exact tail g7 v8 hHeld
set_option maxRecDepth 100000
theorem BsS.by8 {w : World} {d : Sv} {l : List Int} (h : BsS w d l) : BsS w d (ints (by8 l)) := by rw [ints_by8 h.byte]; exact h
set_option maxRecDepth 100000 in
set_option maxHeartbeats 4000000 in
theorem rlay_no {w : World} (b : Blk) (p : Pt) (d n : Sv) (t : Nat) (hp : p.wfp) (hd : BsS w d p.data) (hf : rfit p = false) :
    Calls Tryz.prog 123 #[.agg b.cs.toArray, .agg (p.cs d n).toArray, .int .u32 (t : Int)] w fun e w' => e = .returned (.tuple #[.agg (lyB b p t).cs.toArray, .int .i64 (lyE p)]) ∧ Below w.heap.size w w' := by
  have hE : lyB b p t = b ∧ lyE p = 2 := by unfold lyB lyE; rw [hf]; exact ⟨rfl, rfl⟩
  rw [hE.1, hE.2]
  have hb := b.len
  have t1 : True := trivial
  go_enter Tryz.func123, Tryz.ntmps123
  go_wp2_with (first
    | (refine at_box 88 64 arrB (by rfl) _ (by rfl) b.l (by rfl) hb ?_; intro gb w1 a1 z1 r1 b1)
    | (refine at_boxP (by rfl) _ (by rfl) p d n (by rfl) ?_; intro g2 w2 a2 z2 r2 b2)
    | (refine at_new 88 64 arrB (by rfl) (by rfl) ?_; intro gr w3 a3 z3 r3 b3
       have B3 := bnext (bnext b1 b2 (Nat.le_refl _)) b3 (Nat.le_refl _))
    | (refine at_getP0 (by rfl) _ (by rfl) g2 (by rfl) p d n (r2.later b3) ?_)
    | (go_at_call 142; refine (rfits_any p d n _ hp (hd.later B3)).mono ?_; rintro e w4 ⟨rfl, b4⟩; rw [hf]
       have x4 := ((r1.later b2).later b3).later b4
       have y4 := r3.later b4)
    | (clear t1; refine at_get 88 64 arrB (by rfl) _ (by rfl) gb (by rfl) _ x4 hb ?_)
    | (refine at_put 88 64 arrB (by rfl) _ _ (by rfl) gr (by rfl) b.l (by rfl) hb _ y4 (by simp) ?_; intro w9 r9 s9))
  have S4 : Stp (fun x => w.heap.size ≤ x) w w4 := Stp.of_below (bnext B3 b4 (Nat.le_refl _)) _
  have hgr : w.heap.size ≤ gr := by have := b1.size; have := b2.size; omega
  exact bodyPost_ret (retAt arrB Tryz.results123 rfl rfl r9 hb) rfl ⟨rfl, (S4.next s9 (fun x hx => .inl (by subst hx; exact hgr))).below (Nat.le_refl _) (fun _ h => h)⟩
set_option maxRecDepth 100000 in
set_option maxHeartbeats 4000000 in
theorem rlay_raw {w : World} (b : Blk) (p : Pt) (d n : Sv) (t : Nat) (hp : p.wfp) (hd : BsS w d p.data) (hf : rfit p = true) (hk : p.kind = 0) :
    Calls Tryz.prog 123 #[.agg b.cs.toArray, .agg (p.cs d n).toArray, .int .u32 (t : Int)] w fun e w' => e = .returned (.tuple #[.agg (lyB b p t).cs.toArray, .int .i64 (lyE p)]) ∧ Below w.heap.size w w' := by
  have hE : lyB b p t = lyR b p ∧ lyE p = 0 := by unfold lyB lyE; rw [if_pos hf, if_pos hk, if_pos hf]; exact ⟨rfl, rfl⟩
  rw [hE.1, hE.2]
  obtain ⟨f1, f2, f3, f4⟩ := rfit_to hf
  unfold room at f4
  rw [if_pos hk] at f4
  have hl := lyR_l (b := b) hf hk
  have hL := (lyR b p).len
  have hb := b.len
  have hdn := hd.len
  obtain ⟨o, ho⟩ : ∃ o : Nat, p.off = (o : Int) := ⟨p.off.toNat, by omega⟩
  have ho1 : o ≤ 64 := by omega
  have ho2 : o + d.n ≤ 64 := by omega
  have hoi : p.off.toNat = o := by omega
  rw [hoi] at hl
  have hsub : ∀ u g, (Instr.sliceAt 88 (.pointer (some ⟨g, 0, none⟩)) (some (.int .i64 (o : Int))) none none).run Tryz.prog u = .ok (.slice (some ⟨g, atEnd 64 o, none⟩) (64 - o) (64 - o)) u := fun u g => run_subE arrB u g o ho1
  have hat : Hid (0 < d.n → atEnd 64 o = o) := fun h => by unfold atEnd; rw [if_neg (by omega)]
  generalize atEnd 64 o = o' at *
  generalize lyR b p = R at *
  have hF := rfits_any p d n
  clear hE f1 f2 f3 f4 hoi hdn
  have hkk : Hid (p.kind = 0) := hk
  have hoo : Hid (p.off = (o : Int)) := ho
  have t1 : True := trivial
  have t2 : True := trivial
  clear hk ho
  go_enter Tryz.func123, Tryz.ntmps123
  go_wp2_with (first
    | (refine at_box 88 64 arrB (by rfl) _ (by rfl) b.l (by rfl) hb ?_; intro gb w1 a1 z1 r1 b1)
    | (refine at_boxP (by rfl) _ (by rfl) p d n (by rfl) ?_; intro g2 w2 a2 z2 r2 b2)
    | (refine at_new 88 64 arrB (by rfl) (by rfl) ?_; intro gr w3 a3 z3 r3 b3
       have B3 := bnext (bnext b1 b2 (Nat.le_refl _)) b3 (Nat.le_refl _))
    | (refine at_getP0 (by rfl) _ (by rfl) g2 (by rfl) p d n (r2.later b3) ?_)
    | (go_at_call 142; refine (hF _ hp (hd.later B3)).mono ?_; rintro e w4 ⟨rfl, b4⟩; rw [hf]
       have x4 := ((r1.later b2).later b3).later b4
       have p4 := (r2.later b3).later b4
       have y4 := r3.later b4
       have B4 := bnext B3 b4 (Nat.le_refl _)
       have d4 := (hd.later B4).by8
       obtain ⟨c0, c1, c2, c3, c4, c5, c6, c7, c8⟩ := Pt.cells p4; rw [hkk.out] at c4; rw [hoo.out] at c2; clear c0 c1 c5 c6 c7 c8))
  go_region_law (refine step_copyS rfl (.tmp 18) (.tmp 20) rfl gb o' (64 - o) (64 - o) o d (by simp [Act.eval, Act.put]) (by simp [Act.eval, Act.put]) b.l (by8 p.data) (x4.later (by go_grown)) (d4.later (by go_grown)) (by omega) (by omega) hat.out ?_; intro w5 r5 s5)
  all_goals
    rw [← hl] at r5
    have y5 : Row w5 gr (List.replicate 64 0) := (y4.later (w' := w4.drew) (by go_grown)).step s5 (by have := b2.size; omega)
    clear hl hsub c2 c3 c4 x4 d4 p4 hat hF
    go_wp2_with (first
      | (clear t1; refine at_get 88 64 arrB (by rfl) _ (by rfl) gb (by rfl) _ r5 hL ?_)
      | (clear t2; refine at_put 88 64 arrB (by rfl) _ _ (by rfl) gr (by rfl) R.l (by rfl) hL _ y5 (by simp) ?_; intro w9 r9 s9))
    have S4 : Stp (fun x => w.heap.size ≤ x) w w4.drew := Stp.of_below B4.drew _
    have hgr : w.heap.size ≤ gr := by have := b1.size; have := b2.size; omega
    have S5 := S4.next s5 (fun x hx => .inl (by subst hx; exact a1))
    exact bodyPost_ret (retAt arrB Tryz.results123 rfl rfl r9 hL) rfl ⟨rfl, (S5.next s9 (fun x hx => .inl (by subst hx; exact hgr))).below (Nat.le_refl _) (fun _ h => h)⟩
set_option maxRecDepth 100000 in
set_option maxHeartbeats 4000000 in
theorem rlay_sealed {w : World} (b : Blk) (p : Pt) (d n : Sv) (t : Nat) (hp : p.wfp) (hd : BsS w d p.data) (ht : t < 4294967296) (hf : rfit p = true) (hk : p.kind ≠ 0) :
    Calls Tryz.prog 123 #[.agg b.cs.toArray, .agg (p.cs d n).toArray, .int .u32 (t : Int)] w fun e w' => e = .returned (.tuple #[.agg (lyB b p t).cs.toArray, .int .i64 (lyE p)]) ∧ Below w.heap.size w w' := by
  obtain ⟨f1, f2, f3, f4⟩ := rfit_to hf
  have hE : lyB b p t = pBS p.kind t (lyS b p) ∧ lyE p = pE p.kind := by
    unfold lyB lyE pE isK
    rw [if_pos hf, if_neg hk, if_pos hf, if_pos (by simp; omega)]; exact ⟨rfl, rfl⟩
  rw [hE.1, hE.2]
  unfold room at f4
  rw [if_neg hk] at f4
  have hl := lyS_l (b := b) hf hk
  have HL := rload_anyR b p.kind
  have HP := put_anyS p.kind t (lyS b p)
  have hb := b.len
  have hdn := hd.len
  obtain ⟨o, ho⟩ : ∃ o : Nat, p.off = (o : Int) := ⟨p.off.toNat, by omega⟩
  have ho1 : o ≤ 54 := by omega
  have ho2 : o + d.n ≤ 54 := by omega
  have hoi : p.off.toNat = o := by omega
  rw [hoi] at hl
  have hsub : ∀ u g, (Instr.sliceAt 62 (.pointer (some ⟨g, 0, none⟩)) (some (.int .i64 (o : Int))) none none).run Tryz.prog u = .ok (.slice (some ⟨g, atEnd 54 o, none⟩) (54 - o) (54 - o)) u := fun u g => run_subE arrL u g o ho1
  have hat : Hid (0 < d.n → atEnd 54 o = o) := fun h => by unfold atEnd; rw [if_neg (by omega)]
  have hq := (gP p.kind b).len
  have hL := (lyS b p).len
  have hR := (pBS p.kind t (lyS b p)).len
  generalize atEnd 54 o = o' at *
  generalize pBS p.kind t (lyS b p) = R at *
  generalize lyS b p = L at *
  generalize gP p.kind b = q at *
  generalize pE p.kind = e0 at *
  have hF := rfits_any p d n
  clear hE f1 f2 f3 f4 hoi hdn
  have hoo : Hid (p.off = (o : Int)) := ho
  have t1 : True := trivial
  have t2 : True := trivial
  have t3 : True := trivial
  clear ho
  have hll : Hid (L.l = splice q.l o (by8 p.data)) := hl
  clear hl
  go_enter Tryz.func123, Tryz.ntmps123
  go_wp2_with (first
    | (refine at_box 88 64 arrB (by rfl) _ (by rfl) b.l (by rfl) hb ?_; intro gb w1 a1 z1 r1 b1)
    | (refine at_boxP (by rfl) _ (by rfl) p d n (by rfl) ?_; intro g2 w2 a2 z2 r2 b2)
    | (refine at_new 88 64 arrB (by rfl) (by rfl) ?_; intro gr w3 a3 z3 r3 b3
       have B3 := bnext (bnext b1 b2 (Nat.le_refl _)) b3 (Nat.le_refl _))
    | (refine at_getP0 (by rfl) _ (by rfl) g2 (by rfl) p d n (r2.later b3) ?_)
    | (go_at_call 142; refine (hF _ hp (hd.later B3)).mono ?_; rintro e w4 ⟨rfl, b4⟩; rw [hf]
       have x4 := ((r1.later b2).later b3).later b4
       have p4 := (r2.later b3).later b4
       have y4 := r3.later b4
       have B4 := bnext B3 b4 (Nat.le_refl _)
       obtain ⟨c0, c1, c2, c3, c4, c5, c6, c7, c8⟩ := Pt.cells p4; clear c0 c1 c2 c3 c5 c6 c7 c8)
    | (clear t1; refine at_get 88 64 arrB (by rfl) _ (by rfl) gb (by rfl) _ x4 hb ?_)
    | (go_at_call 143; refine (HL _).mono ?_; rintro e w5 ⟨rfl, b5⟩; clear c4)
    | (clear t2; refine at_new 62 54 arrL (by rfl) (by rfl) ?_; intro gl w6 a6 z6 r6 b6)
    | (refine at_put 62 54 arrL (by rfl) _ _ (by rfl) gl (by rfl) q.l (by rfl) hq _ r6 (by simp) ?_; intro w7 r7 s7
       have p7 : Cs w7 g2 (p.cs d n) := ((p4.later b5).later b6).step s7 (by have := p4.lt; have := b5.size; omega)
       have y7 : Row w7 gr (List.replicate 64 0) := ((y4.later b5).later b6).step s7 (by have := y4.lt; have := b5.size; omega)
       have S7 : Stp (fun x => w.heap.size ≤ x) w w7 := (Stp.of_below (bnext (bnext B4 b5 (Nat.le_refl _)) b6 (Nat.le_refl _)) _).next s7 (fun x hx => .inl (by subst hx; have := B4.size; have := b5.size; omega))
       have B7 := S7.below (Nat.le_refl _) (fun _ h => h)
       have d7 := (hd.later B7).by8
       obtain ⟨c0, c1, c2, c3, c4, c5, c6, c7, c8⟩ := Pt.cells p7; rw [hoo.out] at c2; clear c0 c1 c5 c6 c7 c8))
  go_region_law (refine step_copyS rfl (.tmp 29) (.tmp 31) rfl gl o' (54 - o) (54 - o) o d (by simp [Act.eval, Act.put]) (by simp [Act.eval, Act.put]) q.l (by8 p.data) (r7.later (by go_grown)) (d7.later (by go_grown)) (by omega) (by omega) hat.out ?_; intro w8 r8 s8)
  all_goals
    rw [← hll.out] at r8
    have hgl : ¬ gr = gl := by have := b4.size; have := b5.size; omega
    have y8 : Row w8 gr (List.replicate 64 0) := (y7.later (w' := w7.drew) (by go_grown)).step s8 hgl
    have p8 : Cs w8 g2 (p.cs d n) := (p7.later (w' := w7.drew) (by go_grown)).step s8 (by have := b4.size; have := b5.size; omega)
    have S8 : Stp (fun x => w.heap.size ≤ x) w w8 := S7.drew.next s8 (fun x hx => .inl (by subst hx; have := B4.size; have := b5.size; omega))
    have hgr : w.heap.size ≤ gr := by have := b1.size; have := b2.size; omega
    clear hll hsub c2 c3 c4 x4 p4 y4 hat hF HL p7 y7 r7 d7 S7 s8
    obtain ⟨c0, c1, c2, c3, c4, c5, c6, c7, c8⟩ := Pt.cells p8
    clear c0 c1 c2 c3 c5 c6 c7 c8
    go_wp2_with (first
      | (clear t3; refine at_get 62 54 arrL (by rfl) _ (by rfl) gl (by rfl) _ r8 hL ?_)
      | (go_at_call 144; refine (HP _ ht).mono ?_; rintro e w9 ⟨rfl, b9⟩; clear c4)
      | (refine at_put 88 64 arrB (by rfl) _ _ (by rfl) gr (by rfl) R.l (by rfl) hR _ (y8.later b9) (by simp) ?_; intro w10 r10 s10))
    exact bodyPost_ret (retAt arrB Tryz.results123 rfl rfl r10 hR) rfl ⟨rfl, ((S8.next (Stp.of_below b9 (fun _ => False)) (fun x hx => hx.elim)).next s10 (fun x hx => .inl (by subst hx; exact hgr))).below (Nat.le_refl _) (fun _ h => h)⟩
theorem rlay_any {w : World} (b : Blk) (p : Pt) (d n : Sv) (t : Nat) (hp : p.wfp) (hd : BsS w d p.data) (ht : t < 4294967296) :
    Calls Tryz.prog 123 #[.agg b.cs.toArray, .agg (p.cs d n).toArray, .int .u32 (t : Int)] w fun e w' => e = .returned (.tuple #[.agg (lyB b p t).cs.toArray, .int .i64 (lyE p)]) ∧ Below w.heap.size w w' := by
  cases hf : rfit p
  · exact rlay_no b p d n t hp hd hf
  · by_cases hk : p.kind = 0
    · exact rlay_raw b p d n t hp hd hf hk
    · exact rlay_sealed b p d n t hp hd ht hf hk
end Go.Proofs.YtgdnhkdfcjpdiaaGreatDoor
