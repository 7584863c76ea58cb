/-
  Texts of my own, joined: no statement is proved here.
-/
import Derived.Laws.CopyOwn
import Derived.Test.YtennaimdffohfaaGreatDoorJad
import Derived.Test.YtennaimdffohfaaGreatDoorJaz
import Derived.Test.YtennaimdffohfaaGreatDoorJbi
set_option linter.unusedSimpArgs false
set_option linter.unusedVariables false
namespace Go.Proofs.YtennaimdffohfaaGreatDoor
open Go.ChangeShapes Go.WideShapes Go.ChangeAt Go.RowKit
def byts (l : List Int) : List UInt8 := l.map fun x => UInt8.ofNat x.toNat
theorem byts_len (l : List Int) : (byts l).length = l.length := by unfold byts; simp
theorem byts_ints (l : List UInt8) : byts (ints l) = l := by
  unfold ints byts
  rw [List.map_map]
  conv => rhs; rw [← List.map_id l]
  apply List.map_congr_left
  intro x _
  show UInt8.ofNat ((x.toNat : Int)).toNat = x
  rw [Int.toNat_natCast]; exact UInt8.ofNat_toNat
theorem ints_byts {l : List Int} (h : ∀ x ∈ l, 0 ≤ x ∧ x ≤ 255) : ints (byts l) = l := by
  unfold ints byts
  rw [List.map_map]
  conv => rhs; rw [← List.map_id l]
  apply List.map_congr_left
  intro x hx
  have := h x hx
  show ((UInt8.ofNat x.toNat).toNat : Int) = x
  rw [u8_to (by omega)]; omega
theorem p2_add (a i : Nat) : p2 (8 * a + i) = p2 i := by unfold p2; rw [show (8 * a + i) % 8 = i % 8 by omega]
theorem putX_add (x : Int) (a i : Nat) (on : Bool) : putX x (8 * a + i) on = putX x i on := by unfold putX; rw [p2_add]
def wBM (l : List UInt8) (n : Nat) (on : Bool) : List UInt8 := byts (putB (ints l) n on)
theorem wB_len (l : List UInt8) (n : Nat) (on : Bool) : (wBM l n on).length = l.length := by unfold wBM putB; rw [byts_len]; simp [ints_len]
theorem wB_set (l : List UInt8) (n : Nat) (on : Bool) : wBM l n on = l.set (n / 8) (UInt8.ofNat (putX ((l.getD (n / 8) 0).toNat : Int) n on).toNat) := by
  unfold wBM putB
  rw [ints_getD]
  generalize putX _ n on = x
  unfold byts
  rw [List.map_set]
  show (byts (ints l)).set _ _ = _
  rw [byts_ints]
theorem set_part (l : List UInt8) (a s j : Nat) (x : UInt8) (h : a + s ≤ l.length) (hj : j < s) : splice l a (((l.drop a).take s).set j x) = l.set (a + j) x := by
  have h1 : (l.take a).length = a := by simp; omega
  have h2 : ((l.drop a).take s).length = s := by simp; omega
  have e : l = l.take a ++ ((l.drop a).take s ++ l.drop (a + s)) := by
    rw [← List.drop_drop, List.take_append_drop, List.take_append_drop]
  have e2 : l.set (a + j) x = (l.take a ++ ((l.drop a).take s ++ l.drop (a + s))).set (a + j) x := congrArg (fun y => y.set (a + j) x) e
  rw [e2, List.set_append, if_neg (by omega), h1, Nat.add_sub_cancel_left, List.set_append, if_pos (by omega)]
  unfold splice
  rw [List.length_set, h2]
theorem wB_part (l : List UInt8) (a s i : Nat) (on : Bool) (h : a + s ≤ l.length) (hi : i / 8 < s) : splice l a (wBM ((l.drop a).take s) i on) = wBM l (8 * a + i) on := by
  rw [wB_set, wB_set, putX_add, set_part l a s _ _ h hi, show (8 * a + i) / 8 = a + i / 8 by omega]
  congr 4
  rw [List.getD_eq_getElem?_getD, List.getElem?_take, if_pos hi, List.getElem?_drop, ← List.getD_eq_getElem?_getD]
abbrev grp (g : Int) : Prop := 0 ≤ g ∧ g < 8
def hL (g : Int) : Ld := if grp g then ⟨UInt8.ofNat g.toNat :: List.replicate 53 0, by simp⟩ else Ld.zero
def hE (g : Int) : Int := if grp g then 0 else 2
def hR (p : Ld) (g : Int) : Bool := decide (grp g ∧ p = hL g)
abbrev plc (k i : Int) : Prop := (k = 0 ∧ 0 ≤ i ∧ i < 128) ∨ (k = 4 ∧ 0 ≤ i ∧ i < 24)
def sA (k : Int) : Nat := if k = 4 then 16 else 0
def sZ (k : Int) : Nat := if k = 0 then 16 else if k = 4 then 3 else 0
def mE (k i : Int) : Int := if plc k i then 0 else 2
def pb (k i : Int) : Nat := 8 * sA k + i.toNat
def mW (p : Ld) (k i : Int) (on : Bool) : Ld := if plc k i then ⟨wBM p.l (pb k i) on, by rw [wB_len, p.len]⟩ else Ld.zero
def mB (k i : Int) : Int := if plc k i then ((pb k i / 8 : Nat) : Int) else 0
def mS (p : Ld) (k : Int) : List UInt8 := (p.l.drop (sA k)).take (sZ k)
theorem s_le (k : Int) : sA k + sZ k ≤ 54 := by
  unfold sA sZ; split <;> split <;> try omega
theorem plc_z {k i : Int} (h : plc k i) : 0 ≤ i ∧ i.toNat / 8 < sZ k ∧ i < 8 * (sZ k : Int) := by
  unfold sZ
  rcases h with ⟨rfl, h0, h1⟩ | ⟨rfl, h0, h1⟩ <;> simp <;> omega
theorem plc_of {k i : Int} (h0 : 0 ≤ i) (h1 : i < 8 * (sZ k : Int)) : plc k i := by
  unfold sZ at h1
  by_cases e0 : k = 0
  · rw [if_pos e0] at h1; exact .inl ⟨e0, h0, by omega⟩
  · rw [if_neg e0] at h1
    by_cases e4 : k = 4
    · rw [if_pos e4] at h1; exact .inr ⟨e4, h0, by omega⟩
    · rw [if_neg e4] at h1; omega
theorem mW_part (p : Ld) {k i : Int} (on : Bool) (h : plc k i) : (mW p k i on).l = splice p.l (sA k) (wBM (mS p k) i.toNat on) := by
  unfold mW
  rw [if_pos h]
  show wBM p.l (pb k i) on = _
  unfold mS pb
  rw [wB_part _ _ _ _ _ (by have := s_le k; have := p.len; omega) (plc_z h).2.1]
def mN (s : Gm) (k : Int) : Nat := if s.ok then (if k = 0 then s.d.toNat else if k = 4 then 3 * s.i.toNat else 0) else 0
theorem mN_le (s : Gm) (k : Int) : mN s k ≤ 8 * sZ k := by
  unfold mN sZ
  by_cases h : s.ok
  · rw [if_pos h]; unfold Gm.ok at h
    split
    · omega
    · split <;> omega
  · rw [if_neg h]; omega
theorem mN_128 (s : Gm) (k : Int) : mN s k ≤ 128 := by
  have := mN_le s k
  have : sZ k ≤ 16 := by unfold sZ; split <;> try omega
                         split <;> omega
  omega
def m1 (p : Ld) (s : Gm) (k f : Int) : Int := fz (ints (mS p k)) (mN s k - f.toNat) f.toNat
theorem bnd_mN (s : Gm) (k : Int) : bnd (sZ k) (mN s k : Int) = mN s k := by have := mN_le s k; unfold bnd; omega
theorem ints_wB (l : List UInt8) (n : Nat) (on : Bool) : ints (wBM l n on) = putB (ints l) n on := ints_byts (putB_range (ints_byte l) n on)
theorem pb_lt {k i : Int} (h : plc k i) : pb k i / 8 < 54 := by
  have h1 := plc_z h; have h2 := s_le k; unfold pb; omega
set_option maxRecDepth 100000
theorem sA_lt (k : Int) : sA k < 54 := by unfold sA; split <;> omega
abbrev spc (a n : Int) : List Value := [.int .i64 a, .int .i64 n]
theorem spc_one (a n : Int) : ∀ v ∈ spc a n, v.oneCell' = true := by
  intro v hv; simp only [List.mem_cons, List.not_mem_nil, or_false] at hv
  rcases hv with rfl | rfl <;> rfl
theorem srtSM : Srt 115 2 (spc 0 0) :=
  ⟨⟨_, Tryz.underlying115, rfl⟩, by kernel_rfl, fun w => (zero_of_info (v := .agg (spc 0 0).toArray) (n := 2) (by kernel_rfl)).1 w, rfl, spc_one 0 0⟩
theorem zSp (w : World) : (zeroValue 115).run Tryz.prog w = .ok (.agg (spc 0 0).toArray) w := srtSM.zero w
theorem uSpM : Tryz.prog.underlying 120 = some (.map 3 115) := by kernel_rfl
def spF : Int → Option Value := upd (upd (fun _ => none) 0 (some (.agg (spc 0 16).toArray))) 4 (some (.agg (spc 16 3).toArray))
theorem spF_get (k : Int) : (spF k).getD (.agg (spc 0 0).toArray) = .agg (spc (sA k) (sZ k)).toArray := by
  unfold spF upd sA sZ
  by_cases h4 : k = 4
  · simp [h4]
  · by_cases h0 : k = 0
    · simp [h0]
    · simp [h4, h0]
theorem spF_is (k : Int) : (spF k).isSome = decide (k = 0 ∨ k = 4) := by
  unfold spF upd
  by_cases h4 : k = 4
  · simp [h4]
  · by_cases h0 : k = 0
    · simp [h0]
    · simp [h4, h0]
theorem of_upd0 {v : Value} {k : Int} (h : (upd (fun _ => none) 0 (some v) k).isSome = true) : 0 ≤ k ∧ k < 2048 := by
  unfold upd at h
  by_cases e : k = 0
  · omega
  · simp [e] at h
set_option maxRecDepth 100000 in
set_option maxHeartbeats 1000000 in
theorem spans_any (w : World) : Calls Tryz.prog 55 #[] w fun e w' => ∃ b, e = .returned (.map (some b)) ∧ MpI Tryz.prog 3 w' b spF ∧ Below w.heap.size w w' := by
  have t1 : True := trivial
  go_enter Tryz.func55, Tryz.ntmps55
  go_wp2_with (first
    | (refine at_makeM 120 (by rfl) (by rfl) ?_; intro b w1 hb m1 b1)
    | (have _t := t1; refine at_insM 120 115 uSpM (by rfl) _ _ _ (by rfl) b _ (by rfl) 0 (by rfl) (.agg (spc 0 16).toArray) (by rfl) m1 (fun _ h => by simp at h) (by decide) ?_; intro w2 m2 s2; clear _t t1)
    | (refine at_insM 120 115 uSpM (by rfl) _ _ _ (by rfl) b _ (by rfl) 4 (by rfl) (.agg (spc 16 3).toArray) (by rfl) m2 (fun k h => of_upd0 h) (by decide) ?_; intro w3 m3 s3))
  go_returns
  have S1 : Stp (fun x => w.heap.size ≤ x) w w1 := Stp.of_below b1 _
  have S2 := S1.next s2 (fun x hx => .inl (by subst hx; exact hb))
  have S3 := S2.next s3 (fun x hx => .inl (by subst hx; exact hb))
  exact ⟨b, rfl, m3, S3.below (Nat.le_refl _) (fun _ h => h)⟩
theorem plc_ways (k i : Int) : (decide (k = 0 ∨ k = 4) = false ∧ mE k i = 2) ∨ (decide (k = 0 ∨ k = 4) = true ∧ i < 0 ∧ mE k i = 2) ∨ (decide (k = 0 ∨ k = 4) = true ∧ ¬ i < 0 ∧ i ≥ (sZ k : Int) * 8 ∧ mE k i = 2) ∨ (decide (k = 0 ∨ k = 4) = true ∧ ¬ i < 0 ∧ ¬ i ≥ (sZ k : Int) * 8 ∧ mE k i = 0 ∧ plc k i) := by
  by_cases h : k = 0 ∨ k = 4
  · right
    by_cases h0 : i < 0
    · exact .inl ⟨by simp [h], h0, if_neg (by unfold plc; omega)⟩
    · by_cases h1 : i ≥ (sZ k : Int) * 8
      · exact .inr (.inl ⟨by simp [h], h0, h1, if_neg (fun e => by have := (plc_z e).2.2; omega)⟩)
      · have hp : plc k i := plc_of (by omega) (by omega)
        exact .inr (.inr ⟨by simp [h], h0, h1, if_pos hp, hp⟩)
  · left
    exact ⟨by simp; omega, if_neg (by unfold plc; omega)⟩
def mA (k i : Int) : Int := if plc k i then (sA k : Int) else 0
def mZ (k i : Int) : Int := if plc k i then (sZ k : Int) else 0
theorem not_plc {k i : Int} (h : mE k i = 2) : mA k i = 0 ∧ mZ k i = 0 := by
  have : ¬ plc k i := fun e => by unfold mE at h; rw [if_pos e] at h; omega
  unfold mA mZ; rw [if_neg this, if_neg this]; exact ⟨rfl, rfl⟩
theorem is_plc {k i : Int} (h : plc k i) : mA k i = sA k ∧ mZ k i = sZ k := by unfold mA mZ; rw [if_pos h, if_pos h]; exact ⟨rfl, rfl⟩
set_option maxRecDepth 100000 in
set_option maxHeartbeats 2000000 in
theorem mapOf_any (k i : Int) (w : World) (hk : (Lit.int .i64 k).wf = true) :
    Calls Tryz.prog 53 #[.int .i64 k, .int .i64 i] w fun e w' => e = .returned (.tuple #[.agg (spc (mA k i) (mZ k i)).toArray, .int .i64 (mE k i)]) ∧ Below w.heap.size w w' := by
  have hway := plc_ways k i
  have hz : sZ k ≤ 16 := by have := s_le k; unfold sZ; split <;> try omega
                            split <;> omega
  have hget := spF_get k
  have his := spF_is k
  have hs1 := spc_one (sA k) (sZ k)
  generalize hd : decide (k = 0 ∨ k = 4) = dd at hway his
  clear hd
  rcases hway with ⟨rfl, hE⟩ | ⟨rfl, h0, hE⟩ | ⟨rfl, h0, h1, hE⟩ | ⟨rfl, h0, h1, hE, hp⟩
  all_goals
    have t1 : True := trivial
    have hE' : Hid (mE k i = _) := hE
    clear hE
    go_enter Tryz.func53, Tryz.ntmps53
    go_wp2_with (first
      | (have _t := t1; refine at_newC 115 2 (spc 0 0) srtSM (by rfl) (by rfl) ?_; intro gr w1 a1 z1 r1 b1; clear _t t1)
      | (go_at_call 55; refine (spans_any _).mono ?_; rintro e w2 ⟨b, rfl, m2, b2⟩)
      | (refine at_look2 120 115 uSpM _ zSp (by rfl) _ _ (by rfl) b spF (by rfl) m2 k (by rfl) hk ?_; rw [hget, his])
      | (refine at_newC 115 2 (spc 0 0) srtSM (by rfl) (by rfl) ?_; intro gs w3 a3 z3 r3 b3)
      | (refine at_putC 115 2 (spc 0 0) srtSM (by rfl) _ _ (by rfl) gs (by rfl) (spc (sA k) (sZ k)) (by rfl) rfl hs1 _ r3 rfl ?_; intro w4 r4 s4
         have c1 := r4.cell 1 _ rfl
         have rr : Cs w4 gr (spc 0 0) := ((r1.later b2).later b3).step s4 (by have := r1.lt; have := b2.size; omega)
         have S4 : Stp (fun x => w.heap.size ≤ x) w w4 := (Stp.of_below (bnext (bnext b1 b2 (Nat.le_refl _)) b3 (Nat.le_refl _)) (fun x => w.heap.size ≤ x)).next s4 (fun x hx => .inl (by subst hx; have := b1.size; have := b2.size; omega)))
      | (refine at_getC 115 2 (spc 0 0) srtSM (by rfl) _ (by rfl) gs (by rfl) _ r4 rfl ?_)
      | (refine at_putC 115 2 (spc 0 0) srtSM (by rfl) _ _ (by rfl) gr (by rfl) (spc 0 0) (by rfl) rfl (spc_one 0 0) _ rr rfl ?_; intro w5 r5 s5)
      | (refine at_putC 115 2 (spc 0 0) srtSM (by rfl) _ _ (by rfl) gr (by rfl) (spc (sA k) (sZ k)) (by rfl) rfl hs1 _ rr rfl ?_; intro w5 r5 s5))
    have S5 := S4.next s5 (fun x hx => .inl (by subst hx; exact a1))
    refine bodyPost_ret (retCt srtSM Tryz.results53 rfl rfl r5 rfl) rfl ⟨?_, S5.below (Nat.le_refl _) (fun _ h => h)⟩
  all_goals first
    | (obtain ⟨e1, e2⟩ := not_plc hE'.out; rw [hE'.out, e1, e2]; rfl)
    | (obtain ⟨e1, e2⟩ := is_plc hp; rw [hE'.out, e1, e2]; rfl)
set_option maxRecDepth 100000 in
set_option maxHeartbeats 1000000 in
theorem bits_any (k : Int) (a n : Int) (p : Ld) (w : World) (ha : a = sA k) (hn : n = sZ k) :
    Calls Tryz.prog 56 #[.agg (spc a n).toArray, .agg p.cs.toArray] w fun e w' => ∃ x c, e = .returned (.slice x (sZ k) c) ∧ Bs w' x (sZ k) c (ints (mS p k)) ∧ Below w.heap.size w w' := by
  subst ha; subst hn
  have hs1 := spc_one (sA k) (sZ k)
  have hp := p.len
  have hle := s_le k
  have hlt := sA_lt k
  go_enter Tryz.func56, Tryz.ntmps56
  go_wp2_with (first
    | (refine at_boxC 115 (by rfl) _ (by rfl) (spc (sA k) (sZ k)) (by rfl) hs1 ?_; intro g1 w1 a1 z1 r1 b1)
    | (refine at_box 64 54 arrL (by rfl) _ (by rfl) p.l (by rfl) hp ?_; intro g2 w2 a2 z2 r2 b2
       have c0 := (r1.later b2).cell 0 _ rfl
       have c1 := (r1.later b2).cell 1 _ rfl
       have q := fun w => run_subA arrL w g2 (sA k) (sZ k) hle hlt _ rfl))
  go_returns
  exact ⟨_, _, rfl, r2.bs (sA k) (sZ k) (54 - sA k) (by omega) (by omega) (by unfold maxLen; omega), bnext b1 b2 (Nat.le_refl _)⟩
section
variable {ops : Array Oper} {o : Oper} {a : Act} {w : World} {S : World → Prop} {K : Act → World → Prop} {Q : Exit → Act → World → Prop} {E : Prop}
theorem step_sp (k : Int) (hk : (Lit.int .i64 k).wf = true) (hgd : o.guard = none) (m x : Operand) (ho : o.op = .lookup 120 m x false) (b : Nat) (hm : a.eval m = .map (some b)) (hx : a.eval x = .int .i64 k) (hM : MpI Tryz.prog 3 w b spF)
    (h : K (a.put o.dst (.agg (spc (sA k) (sZ k)).toArray)) w) : if Region.wanted o (yielded ops a.tmps) = true then Oper.wp Tryz.prog o a w K Q else E := by
  have hw : Region.wanted o (yielded ops a.tmps) = true := by simp [Region.wanted, hgd]
  rw [if_pos hw]
  have hr : (execOp a.eval o).run Tryz.prog w = .ok (.value (.agg (spc (sA k) (sZ k)).toArray)) w := by
    rw [← spF_get k]
    simp [execOp, ho, hm, hx, hM.look uIntC uSpM (zSp w) hk]
  unfold Oper.wp
  rw [hr]
  exact h
end
set_option maxRecDepth 100000
theorem mapOf_yes (k i : Int) (w : World) (hk : (Lit.int .i64 k).wf = true) (h : plc k i) :
    Calls Tryz.prog 53 #[.int .i64 k, .int .i64 i] w fun e w' => e = .returned (.tuple #[.agg (spc (sA k) (sZ k)).toArray, .int .i64 0]) ∧ Below w.heap.size w w' := by
  refine (mapOf_any k i w hk).mono ?_
  rintro e w' ⟨rfl, b⟩
  obtain ⟨e1, e2⟩ := is_plc h
  rw [e1, e2, show mE k i = 0 from if_pos h]; exact ⟨rfl, b⟩
theorem mapOf_no (k i : Int) (w : World) (hk : (Lit.int .i64 k).wf = true) (h : ¬ plc k i) :
    Calls Tryz.prog 53 #[.int .i64 k, .int .i64 i] w fun e w' => e = .returned (.tuple #[.agg (spc 0 0).toArray, .int .i64 2]) ∧ Below w.heap.size w w' := by
  refine (mapOf_any k i w hk).mono ?_
  rintro e w' ⟨rfl, b⟩
  have hE : mE k i = 2 := if_neg h
  obtain ⟨e1, e2⟩ := not_plc hE
  rw [e1, e2, hE]; exact ⟨rfl, b⟩
set_option maxRecDepth 100000 in
set_option maxHeartbeats 1000000 in
theorem byte_any (k i : Int) (w : World) (hk : (Lit.int .i64 k).wf = true) :
    Calls Tryz.prog 21 #[.int .i64 k, .int .i64 i] w fun e w' => e = .returned (.tuple #[.int .i64 (mB k i), .int .i64 (mE k i)]) ∧ Below w.heap.size w w' := by
  by_cases h : plc k i
  · have hz := plc_z h
    have hl := s_le k
    obtain ⟨j, rfl⟩ := Int.eq_ofNat_of_zero_le hz.1
    have hE : Hid (mE k j = 0 ∧ mB k j = (sA k : Int) + (j : Int) / 8) := ⟨if_pos h, by unfold mB; rw [if_pos h]; unfold pb; omega⟩
    have hs1 := spc_one (sA k) (sZ k)
    have H1 : Hid _ := fun w => mapOf_yes k j w hk h
    clear h
    go_enter Tryz.func21, Tryz.ntmps21
    go_wp2_with (first
      | (go_at_call 53; refine (H1.out _).mono ?_; rintro e w1 ⟨rfl, b1⟩)
      | (refine at_newC 115 2 (spc 0 0) srtSM (by rfl) (by rfl) ?_; intro gs w3 a3 z3 r3 b3)
      | (refine at_putC 115 2 (spc 0 0) srtSM (by rfl) _ _ (by rfl) gs (by rfl) (spc (sA k) (sZ k)) (by rfl) rfl hs1 _ r3 rfl ?_; intro w4 r4 s4
         have c0 := r4.cell 0 _ rfl))
    go_returns
    have S4 : Stp (fun x => w.heap.size ≤ x) w w4 := (Stp.of_below (bnext b1 b3 (Nat.le_refl _)) (fun x => w.heap.size ≤ x)).next s4 (fun x hx => .inl (by subst hx; have := b1.size; omega))
    refine ⟨?_, S4.below (Nat.le_refl _) (fun _ h => h)⟩
    rw [hE.out.1, hE.out.2]; rfl
  · have hE : Hid (mE k i = 2 ∧ mB k i = 0) := ⟨if_neg h, if_neg h⟩
    have H1 : Hid _ := fun w => mapOf_no k i w hk h
    clear h
    go_enter Tryz.func21, Tryz.ntmps21
    go_wp2_with (first
      | (go_at_call 53; refine (H1.out _).mono ?_; rintro e w1 ⟨rfl, b1⟩)
      | (refine at_newC 115 2 (spc 0 0) srtSM (by rfl) (by rfl) ?_; intro gs w3 a3 z3 r3 b3)
      | (refine at_putC 115 2 (spc 0 0) srtSM (by rfl) _ _ (by rfl) gs (by rfl) (spc 0 0) (by rfl) rfl (spc_one 0 0) _ r3 rfl ?_; intro w4 r4 s4))
    go_returns
    have S4 : Stp (fun x => w.heap.size ≤ x) w w4 := (Stp.of_below (bnext b1 b3 (Nat.le_refl _)) (fun x => w.heap.size ≤ x)).next s4 (fun x hx => .inl (by subst hx; have := b1.size; omega))
    refine ⟨?_, S4.below (Nat.le_refl _) (fun _ h => h)⟩
    rw [hE.out.1, hE.out.2]; rfl
theorem mN_ways (s : Gm) (k : Int) : (s.err = 2 ∧ mN s k = 0) ∨ (s.err = 0 ∧ s.ok ∧ k = 0 ∧ (mN s k : Int) = s.d) ∨ (s.err = 0 ∧ s.ok ∧ ¬ k = 0 ∧ k = 4 ∧ (mN s k : Int) = 3 * s.i) ∨ (s.err = 0 ∧ s.ok ∧ ¬ k = 0 ∧ ¬ k = 4 ∧ mN s k = 0) := by
  unfold mN Gm.err
  by_cases h : s.ok
  · right
    rw [if_pos h, if_pos h]
    have h' := h
    unfold Gm.ok at h'
    by_cases h0 : k = 0
    · exact .inl ⟨rfl, h, h0, by rw [if_pos h0]; omega⟩
    · by_cases h4 : k = 4
      · exact .inr (.inl ⟨rfl, h, h0, h4, by rw [if_neg h0, if_pos h4]; omega⟩)
      · exact .inr (.inr ⟨rfl, h, h0, h4, by rw [if_neg h0, if_neg h4]⟩)
  · left
    rw [if_neg h, if_neg h]; exact ⟨rfl, rfl⟩
theorem inodes_div {s : Gm} (h : s.ok) : s.inodes.tdiv s.g = 3 * s.i ∧ 0 ≤ s.inodes ∧ s.inodes ≤ 192 := by
  have hB := Gm.inoB h
  unfold Gm.inodes
  rw [if_pos h]
  unfold Gm.ok at h
  refine ⟨?_, hB.1, hB.2⟩
  rw [Int.mul_tdiv_cancel_left _ (by omega)]; omega
set_option maxRecDepth 100000 in
set_option maxHeartbeats 2000000 in
theorem places_any (s : Gm) (k : Int) (w : World) :
    Calls Tryz.prog 50 #[gv s, .int .i64 k] w fun e w' => e = .returned (.int .i64 (mN s k)) ∧ Below w.heap.size w w' := by
  have hC := check_anyG s
  rcases mN_ways s k with ⟨he, hn⟩ | ⟨he, ho, h0, hn⟩ | ⟨he, ho, h0, h4, hn⟩ | ⟨he, ho, h0, h4, hn⟩
  · rw [he] at hC
    have hn' : Hid (mN s k = 0) := hn
    clear hn he
    go_enter Tryz.func50, Tryz.ntmps50
    go_wp2_with (first
      | (refine at_boxG (by rfl) _ (by rfl) s (by rfl) ?_; intro g0 w0 a0 z0 r0 b0)
      | (refine at_getG (by rfl) _ (by rfl) g0 (by rfl) s r0 ?_)
      | (go_at_call 80; refine (hC _).mono ?_; rintro e w1 ⟨rfl, b1⟩))
    go_returns
    exact ⟨ret_int (by rw [hn'.out]; rfl), bnext b0 b1 (Nat.le_refl _)⟩
  · rw [he] at hC
    have hn' : Hid ((mN s k : Int) = s.d) := hn
    clear hn he
    subst h0
    go_enter Tryz.func50, Tryz.ntmps50
    go_wp2_with (first
      | (refine at_boxG (by rfl) _ (by rfl) s (by rfl) ?_; intro g0 w0 a0 z0 r0 b0)
      | (refine at_getG (by rfl) _ (by rfl) g0 (by rfl) s r0 ?_)
      | (go_at_call 80; refine (hC _).mono ?_; rintro e w1 ⟨rfl, b1⟩; have c2 := (r0.later b1).c2))
    go_returns
    exact ⟨ret_int (by rw [hn'.out]), bnext b0 b1 (Nat.le_refl _)⟩
  · rw [he] at hC
    have hn' : Hid ((mN s k : Int) = 3 * s.i) := hn
    obtain ⟨q1, q2, q3⟩ := inodes_div ho
    have hI := inodes_any s
    generalize s.inodes = N at *
    have hg : 1 ≤ s.g ∧ s.g ≤ 8 ∧ 1 ≤ s.i ∧ s.i ≤ 8 := by unfold Gm.ok at ho; omega
    obtain ⟨g1, g2, g3, g4⟩ := hg
    have hgz : ¬ s.g = 0 := by omega
    clear hn he ho h0
    subst h4
    go_enter Tryz.func50, Tryz.ntmps50
    go_wp2_with (first
      | (refine at_boxG (by rfl) _ (by rfl) s (by rfl) ?_; intro g0 w0 a0 z0 r0 b0)
      | (refine at_getG (by rfl) _ (by rfl) g0 (by rfl) s r0 ?_)
      | (go_at_call 80; refine (hC _).mono ?_; rintro e W ⟨rfl, b1⟩; have r1 := r0.later b1))
    refine wp_region_held_drew (S := fun u => Below W.heap.size W u) (by kernel_rfl) (Below.refl _ _).drew (fun hHeld => ?_)
    refine tm 0 (gv s) rfl
      (yields_G (by rfl) (.tmp 2) rfl g0 (by rfl) s (fun u hu => r1.later hu)) ?_
    try simp only [z]
    refine tl 2 (.pointer (some ⟨g0, 0, none⟩)) rfl ?_
    try simp only [z]
    refine tl 3 (.int .i64 s.g) rfl ?_ (fun u hu => by (have y := (r1.later hu).c0; go_simp))
    try simp only [z]
    refine rd 1 rfl (fun K hK => ?_)
    go_simp
    refine (hI _).mono ?_
    rintro e v1 ⟨rfl, c1⟩
    try go_wp2_with fail
    refine hK.out _ _ (bnext hHeld c1 (Nat.le_refl _)) (fun hHeld => ?_)
    clear hK K
    try simp only [z]
    refine tl 4 (.int .i64 (3 * s.i)) rfl ?_ (fun u hu => by (go_simp; rw [IntKind.wrap_i64]; omega))
    try simp only [z]
    refine tl 5 (.int .i64 (3 * s.i)) rfl ?_
    try simp only [z]
    refine wpAnyH_done (by kernel_rfl) ?_ _
    go_wp2_with fail
    go_returns
    exact ⟨ret_int (by rw [hn'.out]), bnext (bnext b0 b1 (Nat.le_refl _)) hHeld (Nat.le_refl _)⟩
  · rw [he] at hC
    have hn' : Hid (mN s k = 0) := hn
    clear hn he
    go_enter Tryz.func50, Tryz.ntmps50
    go_wp2_with (first
      | (refine at_boxG (by rfl) _ (by rfl) s (by rfl) ?_; intro g0 w0 a0 z0 r0 b0)
      | (refine at_getG (by rfl) _ (by rfl) g0 (by rfl) s r0 ?_)
      | (go_at_call 80; refine (hC _).mono ?_; rintro e w1 ⟨rfl, b1⟩))
    go_returns
    exact ⟨ret_int (by rw [hn'.out]; rfl), bnext b0 b1 (Nat.le_refl _)⟩
theorem firstS_any (p : Ld) (s : Gm) (k f : Int) (x : Option Addr) (c : Nat) (w : World) (hb : Bs w x (sZ k) c (ints (mS p k))) (hf : (Lit.int .i64 f).wf = true) :
    Calls Tryz.prog 54 #[.slice x (sZ k) c, .int .i64 f, .int .i64 (mN s k : Nat)] w fun e w' => e = .returned (.int .i64 (m1 p s k f)) ∧ Below w.heap.size w w' := by
  have := s_le k
  have := mN_128 s k
  have := bounds_i64 hf
  refine (first_any x _ c _ f (mN s k : Nat) w hb (by omega) (by omega) (by omega) (by omega) (by omega)).mono ?_
  rintro e w' ⟨rfl, q, rfl⟩
  rw [bnd_mN]; exact ⟨rfl, below_drewN _ _⟩
set_option maxRecDepth 100000 in
set_option maxHeartbeats 4000000 in
theorem mfirst_any (p : Ld) (s : Gm) (k f : Int) (w : World) (hk : (Lit.int .i64 k).wf = true) (hf : (Lit.int .i64 f).wf = true) :
    Calls Tryz.prog 22 #[.agg p.cs.toArray, gv s, .int .i64 k, .int .i64 f] w fun e w' => e = .returned (.int .i64 (m1 p s k f)) ∧ Below w.heap.size w w' := by
  have hp := p.len
  go_enter Tryz.func22, Tryz.ntmps22
  go_wp2_with (first
    | (refine at_box 64 54 arrL (by rfl) _ (by rfl) p.l (by rfl) hp ?_; intro g0 w0 a0 z0 r0 b0)
    | (refine at_boxG (by rfl) _ (by rfl) s (by rfl) ?_; intro g1 W a1 z1 rg b1))
  have rp := r0.later b1
  have B := bnext b0 b1 (Nat.le_refl _)
  clear r0 b0 b1 a0 a1 z0 z1
  refine wp_region_held_drew (S := fun u => Below W.heap.size W u) (by kernel_rfl) (Below.refl _ _).drew (fun hHeld => ?_)
  refine tl 1 (.int .i64 k) rfl ?_
  try simp only [z]
  refine tm 3 (.agg p.cs.toArray) rfl
    (yields_row 64 54 arrL (by rfl) (.tmp 4) rfl g0 (by rfl) p.l hp (fun u hu => rp.later hu)) ?_
  try simp only [z]
  refine tl 5 (.int .i64 f) rfl ?_
  try simp only [z]
  refine tm 6 (gv s) rfl
    (yields_G (by rfl) (.tmp 5) rfl g1 (by rfl) s (fun u hu => rg.later hu)) ?_
  try simp only [z]
  refine tl 7 (.int .i64 k) rfl ?_
  try simp only [z]
  refine rd 0 rfl (fun K hK => ?_)
  go_simp
  refine (spans_any _).mono ?_
  rintro e v0 ⟨b, rfl, m2, d0⟩
  try go_wp2_with fail
  refine hK.out _ _ (bnext hHeld d0 (Nat.le_refl _)) (fun hHeld => ?_)
  clear hK K
  try simp only [z]
  refine rd 2 rfl (fun K hK => ?_)
  refine step_sp k hk rfl (.tmp 9) (.tmp 10) rfl b (by rfl) (by rfl) m2 ?_
  refine hK.out _ _ (hHeld) (fun hHeld => ?_)
  clear hK K
  try simp only [z]
  refine rd 4 rfl (fun K hK => ?_)
  go_simp
  refine (bits_any k _ _ p _ rfl rfl).mono ?_
  rintro e v4 ⟨x4, c4, rfl, y4, d4⟩
  try go_wp2_with fail
  refine hK.out _ _ (bnext hHeld d4 (Nat.le_refl _)) (fun hHeld => ?_)
  clear hK K
  try simp only [z]
  refine rd 8 rfl (fun K hK => ?_)
  go_simp
  refine (places_any s k _).mono ?_
  rintro e v8 ⟨rfl, d8⟩
  try go_wp2_with fail
  have y4 := y4.later d8
  refine hK.out _ _ (bnext hHeld d8 (Nat.le_refl _)) (fun hHeld => ?_)
  clear hK K
  try simp only [z]
  refine rd 9 rfl (fun K hK => ?_)
  go_simp
  refine (firstS_any p s k f _ _ _ y4 hf).mono ?_
  rintro e v9 ⟨rfl, d9⟩
  try go_wp2_with fail
  refine hK.out _ _ (bnext hHeld d9 (Nat.le_refl _)) (fun hHeld => ?_)
  clear hK K
  try simp only [z]
  refine tl 10 (.int .i64 (m1 p s k f)) rfl ?_
  try simp only [z]
  refine wpAnyH_done (by kernel_rfl) ?_ _
  go_wp2_with fail
  go_returns
  exact ⟨rfl, bnext B hHeld (Nat.le_refl _)⟩
set_option maxRecDepth 100000
theorem withB_any (x : Option Addr) (n c : Nat) (l : List UInt8) (j : Nat) (on : Bool) (w : World) (hb : Bs w x n c (ints l)) (h : j / 8 < n) (hj : j ≤ 1000000) (hn : n ≤ 1000000) :
    Calls Tryz.prog 97 #[.slice x n c, .int .i64 j, .bool on] w fun e w' => ∃ y d, e = .returned (.tuple #[.slice y n d, .int .i64 0]) ∧ Bs w' y n d (ints (wBM l j on)) ∧ Below w.heap.size w w' := by
  refine (with_ok x n c _ j on w hb h (by omega) (by omega)).mono ?_
  rintro e w' ⟨v, rfl, hown, hbel⟩
  obtain ⟨a', c', rfl, hb'⟩ := own_bs hown (putB_range hb.byte j on)
  exact ⟨a', c', rfl, by rw [show ints (wBM l j on) = putB (ints l) j on from ints_wB l j on]; exact hb', hbel⟩
set_option maxRecDepth 100000 in
set_option maxHeartbeats 2000000 in
theorem mwith_any (p : Ld) (k i : Int) (on : Bool) (w : World) (hk : (Lit.int .i64 k).wf = true) :
    Calls Tryz.prog 74 #[.agg p.cs.toArray, .int .i64 k, .int .i64 i, .bool on] w fun e w' => e = .returned (.tuple #[.agg (mW p k i on).cs.toArray, .int .i64 (mE k i)]) ∧ Below w.heap.size w w' := by
  have hp := p.len
  by_cases h : plc k i
  · have hz := plc_z h
    have hl := s_le k
    have hq := (mW p k i on).len
    obtain ⟨j, rfl⟩ := Int.eq_ofNat_of_zero_le hz.1
    rw [Int.toNat_natCast] at hz
    have hW := mW_part p on h
    rw [Int.toNat_natCast] at hW
    have hE : Hid (mE k j = 0) := if_pos h
    have hs1 := spc_one (sA k) (sZ k)
    have H1 : Hid _ := fun w => mapOf_yes k j w hk h
    obtain ⟨_, hz1, hz2⟩ := hz
    generalize mW p k j on = q at *
    have hA := sA_lt k
    have hsub := fun w g => run_subL arrL w g (sA k) hA
    have t1 : True := trivial
    clear h
    go_enter Tryz.func74, Tryz.ntmps74
    go_wp2_with (first
      | (refine at_box 64 54 arrL (by rfl) _ (by rfl) p.l (by rfl) hp ?_; intro g0 w0 a0 z0 r0 b0)
      | (refine at_new 64 54 arrL (by rfl) (by rfl) ?_; intro gr w00 a00 z00 r00 b00; have rp0 := r0.later b00; have B0 := bnext b0 b00 (Nat.le_refl _); have hgr : w.heap.size ≤ gr := (by have := b0.size; omega); clear r0 b0)
      | (go_at_call 53; refine (H1.out _).mono ?_; rintro e w1 ⟨rfl, b1⟩)
      | (refine at_newC 115 2 (spc 0 0) srtSM (by rfl) (by rfl) ?_; intro gs w3 a3 z3 r3 b3)
      | (refine at_putC 115 2 (spc 0 0) srtSM (by rfl) _ _ (by rfl) gs (by rfl) (spc (sA k) (sZ k)) (by rfl) rfl hs1 _ r3 rfl ?_; intro w4 r4 s4
         have rp : Row w4 g0 p.l := ((rp0.later b1).later b3).step s4 (by have := rp0.lt; have := b1.size; omega)
         have rr : Row w4 gr (List.replicate 54 0) := ((r00.later b1).later b3).step s4 (by have := r00.lt; have := b1.size; omega)
         have S4 : Stp (fun x => w.heap.size ≤ x) w w4 := (Stp.of_below (bnext (bnext B0 b1 (Nat.le_refl _)) b3 (Nat.le_refl _)) (fun x => w.heap.size ≤ x)).next s4 (fun x hx => .inl (by subst hx; have := B0.size; have := b1.size; omega))
         clear rp0 r00 B0 b1 b3 s4 r3)
      | (refine at_getC 115 2 (spc 0 0) srtSM (by rfl) _ (by rfl) gs (by rfl) _ r4 rfl ?_)
      | (have _t := t1; refine at_getL (by rfl) _ (by rfl) g0 (by rfl) p rp ?_; clear _t)
      | (go_at_call 56; refine (bits_any k _ _ p _ rfl rfl).mono ?_; rintro e w5 ⟨x5, c5, rfl, y5, b5⟩)
      | (go_at_call 97; refine (withB_any _ _ _ _ j on _ y5 hz1 (by omega) (by omega)).mono ?_; rintro e w6 ⟨x6, c6, rfl, y6, b6⟩
         have B6 := bnext b5 b6 (Nat.le_refl _)
         have rp6 := rp.later B6
         have rr6 := rr.later B6
         have c0 := (r4.later B6).cell 0 _ rfl
         have S6 := S4.next (Stp.of_below B6 (fun _ => False)) (fun _ h => h.elim)
         clear rp rr S4 B6 b5 b6 y5 r4 t1)
      | (refine at_copyB rfl _ _ (by rfl) g0 (sA k) (54 - sA k) (54 - sA k) x6 (sZ k) c6 (by rfl) (by rfl) p.l _ rp6 y6 (by omega) (by omega) (by omega) ?_; intro w7 r7 s7
         rw [← hW] at r7
         have rr7 := rr6.step s7 (by omega)
         have S7 := S6.next s7 (fun x hx => .inl (by subst hx; assumption)))
      | (refine at_getL (by rfl) _ (by rfl) g0 (by rfl) q r7 ?_)
      | (refine at_put 64 54 arrL (by rfl) _ _ (by rfl) gr (by rfl) q.l (by rfl) hq _ rr7 (by simp) ?_; intro w8 r8 s8))
    have S8 := S7.next s8 (fun x hx => .inl (by subst hx; exact hgr))
    refine bodyPost_ret (retAt arrL Tryz.results74 rfl rfl r8 hq) rfl ⟨?_, S8.below (Nat.le_refl _) (fun _ h => h)⟩
    rw [hE.out]; rfl
  · have hE : Hid (mE k i = 2 ∧ mW p k i on = Ld.zero) := ⟨if_neg h, if_neg h⟩
    have H1 : Hid _ := fun w => mapOf_no k i w hk h
    clear h
    go_enter Tryz.func74, Tryz.ntmps74
    go_wp2_with (first
      | (refine at_box 64 54 arrL (by rfl) _ (by rfl) p.l (by rfl) hp ?_; intro g0 w0 a0 z0 r0 b0)
      | (refine at_new 64 54 arrL (by rfl) (by rfl) ?_; intro gr w00 a00 z00 r00 b00; have B0 := bnext b0 b00 (Nat.le_refl _); have hgr : w.heap.size ≤ gr := (by have := b0.size; omega); clear r0 b0)
      | (go_at_call 53; refine (H1.out _).mono ?_; rintro e w1 ⟨rfl, b1⟩)
      | (refine at_newC 115 2 (spc 0 0) srtSM (by rfl) (by rfl) ?_; intro gs w3 a3 z3 r3 b3)
      | (refine at_putC 115 2 (spc 0 0) srtSM (by rfl) _ _ (by rfl) gs (by rfl) (spc 0 0) (by rfl) rfl (spc_one 0 0) _ r3 rfl ?_; intro w4 r4 s4
         have rr : Row w4 gr (List.replicate 54 0) := ((r00.later b1).later b3).step s4 (by have := r00.lt; have := b1.size; omega)
         have S4 : Stp (fun x => w.heap.size ≤ x) w w4 := (Stp.of_below (bnext (bnext B0 b1 (Nat.le_refl _)) b3 (Nat.le_refl _)) (fun x => w.heap.size ≤ x)).next s4 (fun x hx => .inl (by subst hx; have := B0.size; have := b1.size; omega)))
      | (refine at_bldL (by rfl) (by rfl) ?_)
      | (refine at_put 64 54 arrL (by rfl) _ _ (by rfl) gr (by rfl) Ld.zero.l (by rfl) (by rfl) _ rr (by simp) ?_; intro w8 r8 s8))
    have S8 := S4.next s8 (fun x hx => .inl (by subst hx; exact hgr))
    refine bodyPost_ret (retAt arrL Tryz.results74 rfl rfl r8 (by rfl)) rfl ⟨?_, S8.below (Nat.le_refl _) (fun _ h => h)⟩
    rw [hE.out.1, hE.out.2]; rfl
end Go.Proofs.YtennaimdffohfaaGreatDoor
