/-
  Texts of my own, joined: no statement is proved here.
-/
import Derived.Test.YtennaimdffohfaaGreatDoorRows
import Derived.Laws.AppendOwnNone
import Derived.Test.YtennaimdffohfaaGreatDoorJaa
set_option linter.unusedSimpArgs false
set_option linter.unusedVariables false
namespace Go.Proofs.YtennaimdffohfaaGreatDoor
open Go.ChangeShapes Go.WideShapes Go.ChangeAt Go.RowKit
theorem put16_any (x : Int) (w : World) (h0 : 0 ≤ x) (h1 : x ≤ 65535) :
    Calls Tryz.prog 169 #[.int .u16 x] w fun e w' => e = .returned (.agg #[.int .u8 (x % 256), .int .u8 (x / 256)]) ∧ Below w.heap.size w w' := by
  go_enter Tryz.func169, Tryz.ntmps169
  go_wp2
  go_rounds 3
  go_returns
  exact ⟨rfl, by go_grown⟩
theorem put32_any (x : Int) (w : World) (h0 : 0 ≤ x) (h1 : x ≤ 4294967295) :
    Calls Tryz.prog 132 #[.int .u32 x] w fun e w' => e = .returned (.agg #[.int .u8 (x % 256), .int .u8 (x / 256 % 256), .int .u8 (x / 65536 % 256), .int .u8 (x / 16777216)]) ∧ Below w.heap.size w w' := by
  go_enter Tryz.func132, Tryz.ntmps132
  go_wp2
  go_rounds 5
  go_returns
  exact ⟨rfl, by go_grown⟩
theorem rput16_any (x : Int) (w : World) (h0 : 0 ≤ x) (h1 : x ≤ 65535) :
    Calls Tryz.prog 69 #[.int .u16 x] w fun e w' => e = .returned (.slice (some ⟨w.heap.size, 0, none⟩) 2 2) ∧ w' = w.alloc (.cells #[.int .u8 (x % 256), .int .u8 (x / 256)] 5) := by
  have hd : IntKind.u16.wrap (x.tdiv 256) % 256 = x / 256 := by
    rw [Int.tdiv_eq_ediv_of_nonneg h0, IntKind.wrap_u16]; omega
  go_enter Tryz.func69, Tryz.ntmps69
  go_wp2
  go_returns
  exact ⟨rfl, rfl⟩
theorem rput32_any (x : Int) (w : World) (h0 : 0 ≤ x) (h1 : x ≤ 4294967295) :
    Calls Tryz.prog 71 #[.int .u32 x] w fun e w' => e = .returned (.slice (some ⟨w.heap.size, 0, none⟩) 4 4) ∧
      w' = w.alloc (.cells #[.int .u8 (x % 256), .int .u8 (x / 256 % 256), .int .u8 (x / 65536 % 256), .int .u8 (x / 16777216)] 5) := by
  go_enter Tryz.func71, Tryz.ntmps71
  go_wp2
  go_returns
  exact ⟨rfl, rfl⟩
theorem get2_ok (a : Option Addr) (n c : Nat) (l : List Int) (k : Nat) (w : World) (hb : Bs w a n c l) (h : k + 2 ≤ n) :
    Calls Tryz.prog 153 #[.slice a n c, .int .i64 k, .int .i64 2] w fun e w' => e = .returned (.tuple #[.int .u32 (le2 l k), .int .i64 0]) ∧ w' = w := by
  obtain ⟨b, o, rfl, hc⟩ := hb.cell (by omega)
  have hm := hb.cap; have hle := hb.le; unfold maxLen at hm
  have r0 := hb.range' k; have r1 := hb.range' (k + 1)
  have c0 := hc k (by omega); have c1 := hc (k + 1) (by omega)
  have e := or_le2 _ _ r0 r1
  unfold le2
  rw [List.getD_eq_getElem?_getD] at c0 c1
  rw [List.getD_eq_getElem?_getD, List.getD_eq_getElem?_getD]
  clear hc hb
  go_enter Tryz.func153, Tryz.ntmps153
  go_wp2
  go_rounds 3
  go_returns
  exact ⟨by rw [← e]; rfl, rfl⟩
theorem get4_ok (a : Option Addr) (n c : Nat) (l : List Int) (k : Nat) (w : World) (hb : Bs w a n c l) (h : k + 4 ≤ n) :
    Calls Tryz.prog 153 #[.slice a n c, .int .i64 k, .int .i64 4] w fun e w' => e = .returned (.tuple #[.int .u32 (le4 l k), .int .i64 0]) ∧ w' = w := by
  obtain ⟨b, o, rfl, hc⟩ := hb.cell (by omega)
  have hm := hb.cap; have hle := hb.le; unfold maxLen at hm
  have r0 := hb.range' k; have r1 := hb.range' (k + 1); have r2 := hb.range' (k + 2); have r3 := hb.range' (k + 3)
  have c0 := hc k (by omega); have c1 := hc (k + 1) (by omega); have c2 := hc (k + 2) (by omega); have c3 := hc (k + 3) (by omega)
  have e : Hid _ := or_le4 _ _ _ _ r0 r1 r2 r3
  unfold le4
  rw [List.getD_eq_getElem?_getD] at c0 c1 c2 c3
  rw [List.getD_eq_getElem?_getD, List.getD_eq_getElem?_getD, List.getD_eq_getElem?_getD, List.getD_eq_getElem?_getD]
  clear hc hb
  go_enter Tryz.func153, Tryz.ntmps153
  go_wp2
  go_rounds 5
  go_returns
  exact ⟨by rw [← e.out]; rfl, rfl⟩
theorem mask_any (i : Nat) (w : World) (h1 : i ≤ 9223372036854775807) :
    Calls Tryz.prog 104 #[.int .i64 i] w fun e w' => e = .returned (.int .u8 (p2 i)) ∧ w' = w := by
  have e : Hid ((2 : Int) ^ (i % 8) % 256 = p2 i) := by
    have hp := p2_range i
    show _ % 256 = _
    unfold p2 at *; omega
  go_enter Tryz.func104, Tryz.ntmps104
  go_wp2
  go_returns
  exact ⟨by rw [← e.out]; rfl, rfl⟩
theorem has_yes (a : Option Addr) (n c : Nat) (i : Nat) (w : World) (hc : n ≤ 9223372036854775807) (h2 : i ≤ 9223372036854775807) (h3 : i / 8 < n) :
    Calls Tryz.prog 122 #[.slice a n c, .int .i64 i] w fun e w' => e = .returned (.bool true) ∧ w = w' := by
  have h0 : 0 ≤ (i : Int) := by omega
  have h4 : (i : Int) / 8 < n := by omega
  go_enter Tryz.func122, Tryz.ntmps122
  go_wp2
  go_returns
  exact ⟨rfl, rfl⟩
theorem isSet_any (a : Option Addr) (n c : Nat) (l : List Int) (i : Nat) (w : World) (hb : Bs w a n c l) (h : i / 8 < n) (hi' : i ≤ 9223372036854775807) :
    Calls Tryz.prog 83 #[.slice a n c, .int .i64 i] w fun e w' => e = .returned (.bool (bitB l i)) ∧ ∃ k, w' = w.drewN k := by
  obtain ⟨b, o, rfl, hc⟩ := hb.cell (by omega)
  have hm := hb.cap; have hle := hb.le; unfold maxLen at hm
  have r0 := hb.range' (i / 8)
  have c0 := hc (i / 8) (by omega)
  have hi : (i : Int) / 8 < n := by omega
  have e : Hid ((bits .and .u8 (l[i / 8]?.getD 0) (p2 i) != 0) = bitB l i) := by
    show (_ != _) = _
    rw [and_bit _ _ r0]; unfold bitB; rw [List.getD_eq_getElem?_getD]; exact bit_ne _ _
  rw [List.getD_eq_getElem?_getD] at c0
  clear hc hb
  go_enter Tryz.func83, Tryz.ntmps83
  go_wp2
  go_quiet ((go_at_call 104; exact Calls.quiet_of_same (mask_any _ _ hi')))
  go_wp2
  go_returns
  exact ⟨by rw [← e.out]; rfl, _, rfl⟩
theorem isSet_at (a : Option Addr) (n c : Nat) (l : List Int) (I : Int) (i : Nat) (w : World) (hb : Bs w a n c l) (hI : I = i) (h : i / 8 < n) (hi' : i ≤ 9223372036854775807) :
    Calls Tryz.prog 83 #[.slice a n c, .int .i64 I] w fun e w' => e = .returned (.bool (bitB l i)) ∧ ∃ k, w' = w.drewN k := by
  subst hI; exact isSet_any a n c l i w hb h hi'
theorem bound_any (a : Option Addr) (n c : Nat) (m : Int) (w : World) (hc : n ≤ 1000000000000000000) (h1 : -9223372036854775808 ≤ m) (h2 : m ≤ 9223372036854775807) :
    Calls Tryz.prog 82 #[.slice a n c, .int .i64 m] w fun e w' => e = .returned (.int .i64 (bnd n m)) ∧ w = w' := by
  go_enter Tryz.func82, Tryz.ntmps82
  go_wp2
  all_goals (go_returns; exact ⟨ret_int (by unfold bnd; omega), rfl⟩)
theorem first_any (a : Option Addr) (n c : Nat) (l : List Int) (f m : Int) (w : World) (hb : Bs w a n c l) (hc : n ≤ 1000000000000000000) (h1 : -9223372036854775808 ≤ m) (h2 : m ≤ 9223372036854775807)
    (h3 : -9223372036854775808 ≤ f) (h4 : f ≤ 9223372036854775807) :
    Calls Tryz.prog 54 #[.slice a n c, .int .i64 f, .int .i64 m] w fun e w' => e = .returned (.int .i64 (fz l (bnd n m - f.toNat) f.toNat)) ∧ ∃ k, w' = w.drewN k := by
  have hB : bnd n m ≤ 8 * n := bnd_le n m
  have hbound := bound_any a n c m w hc h1 h2
  obtain ⟨B, HB⟩ : ∃ B, B = bnd n m := ⟨_, rfl⟩
  obtain ⟨g, hg, hg'⟩ : ∃ g : Nat, f.toNat = g ∧ (if f < 0 then 0 else f) = (g : Int) := ⟨f.toNat, rfl, by split <;> omega⟩
  have hg2 : g ≤ 9223372036854775807 := by omega
  rw [← HB] at hB hbound ⊢
  rw [hg]
  clear HB
  by_cases hf : f < 0
  · have hg0 : g = 0 := by omega
    clear hg hg'
    subst hg0
    rw [Nat.sub_zero]
    go_enter Tryz.func54, Tryz.ntmps54
    go_wp2_with (go_at_call 82; refine hbound.mono ?_; rintro e w' ⟨rfl, rfl⟩)
    go_loopw [15] (fun i wr => ∃ k : Nat, k ≤ B ∧ i = .int .i64 k ∧ fz l (B) 0 = fz l (B - k) k ∧ ∃ q, wr = w.drewN q) (fun i _ => B - (intOf i).toNat)
    case atStart => exact ⟨0, Nat.zero_le _, rfl, rfl, 0, rfl⟩
    case round =>
      obtain ⟨k, hk, rfl, HF, q, rfl⟩ := hrel
      have hH : Hid (fz l (B) 0 = fz l (B - k) k) := HF
      clear HF
      by_cases hlt : k < B
      · have hb' : Bs (w.drewN q) a n c l := hb.drewN q
        have hst : Hid (fz l (B - k) k = if bitB l k then fz l (B - (k + 1)) (k + 1) else ((k : Nat) : Int)) := by
          show _ = _
          rw [show B - k = (B - (k + 1)) + 1 by omega]; rfl
        by_cases hbit : bitB l k = true
        · go_wp2_with (go_at_call 83; refine (isSet_at a n c l _ k _ hb' (by omega) (by omega) (by omega)).mono ?_; rintro e w' ⟨rfl, k', rfl⟩)
          go_roundw
          case rel => exact ⟨k + 1, by omega, by go_num, by rw [hH.out, hst.out, if_pos hbit], _, rfl⟩
          case measure => simp [intOf]; omega
        · go_wp2_with (go_at_call 83; refine (isSet_at a n c l _ k _ hb' (by omega) (by omega) (by omega)).mono ?_; rintro e w' ⟨rfl, k', rfl⟩)
          go_returns
          exact ⟨ret_int (by rw [hH.out, hst.out, if_neg hbit]; try omega), _, rfl⟩
      · have hk' : B - k = 0 := by omega
        have hst : Hid (fz l (B - k) k = -1) := by show _ = _; rw [hk']; rfl
        clear hk'
        go_wp2
        go_returns
        exact ⟨ret_int (by rw [hH.out, hst.out]), _, rfl⟩
  · obtain rfl : f = (g : Int) := by omega
    clear hg hg'
    go_enter Tryz.func54, Tryz.ntmps54
    go_wp2_with (go_at_call 82; refine hbound.mono ?_; rintro e w' ⟨rfl, rfl⟩)
    go_loopw [15] (fun i wr => ∃ k : Nat, k ≤ B - g ∧ i = .int .i64 k ∧ fz l (B - g) g = fz l (B - g - k) (g + k) ∧ ∃ q, wr = w.drewN q) (fun i _ => B - (intOf i).toNat)
    case atStart => exact ⟨0, Nat.zero_le _, rfl, rfl, 0, rfl⟩
    case round =>
      obtain ⟨k, hk, rfl, HF, q, rfl⟩ := hrel
      have hH : Hid (fz l (B - g) g = fz l (B - g - k) (g + k)) := HF
      clear HF
      by_cases hlt : k < B - g
      · have hb' : Bs (w.drewN q) a n c l := hb.drewN q
        have hst : Hid (fz l (B - g - k) (g + k) = if bitB l (g + k) then fz l (B - g - (k + 1)) (g + (k + 1)) else ((g + k : Nat) : Int)) := by
          show _ = _
          rw [show B - g - k = (B - g - (k + 1)) + 1 by omega]; rfl
        by_cases hbit : bitB l (g + k) = true
        · go_wp2_with (go_at_call 83; refine (isSet_at a n c l _ (g + k) _ hb' (by omega) (by omega) (by omega)).mono ?_; rintro e w' ⟨rfl, k', rfl⟩)
          go_roundw
          case rel => exact ⟨k + 1, by omega, by go_num, by rw [hH.out, hst.out, if_pos hbit], _, rfl⟩
          case measure => simp [intOf]; omega
        · go_wp2_with (go_at_call 83; refine (isSet_at a n c l _ (g + k) _ hb' (by omega) (by omega) (by omega)).mono ?_; rintro e w' ⟨rfl, k', rfl⟩)
          go_returns
          exact ⟨ret_int (by rw [hH.out, hst.out, if_neg hbit]; try omega), _, rfl⟩
      · have hk' : B - g - k = 0 := by omega
        have hst : Hid (fz l (B - g - k) (g + k) = -1) := by show _ = _; rw [hk']; rfl
        clear hk'
        go_wp2
        go_returns
        exact ⟨ret_int (by rw [hH.out, hst.out]), _, rfl⟩
theorem number2_ok (a : Option Addr) (n c : Nat) (l : List Int) (k : Nat) (w : World) (hb : Bs w a n c l) (h : k + 2 ≤ n) :
    Calls Tryz.prog 160 #[.slice a n c, .int .i64 k, .int .i64 2] w fun e w' => e = .returned (.tuple #[.int .u64 (le2 l k), .int .i64 0]) ∧ w = w' := by
  obtain ⟨b, o, rfl, hc⟩ := hb.cell (by omega)
  have hm := hb.cap; have hle := hb.le; unfold maxLen at hm
  have r0 := hb.range' k; have r1 := hb.range' (k + 1)
  have c0 := hc k (by omega); have c1 := hc (k + 1) (by omega)
  unfold le2
  rw [List.getD_eq_getElem?_getD] at c0 c1
  rw [List.getD_eq_getElem?_getD, List.getD_eq_getElem?_getD]
  clear hc hb
  go_enter Tryz.func160, Tryz.ntmps160
  go_wp2
  go_rounds 3
  go_returns
  exact ⟨ret_tup2 (by omega) rfl, rfl⟩
theorem number4_ok (a : Option Addr) (n c : Nat) (l : List Int) (k : Nat) (w : World) (hb : Bs w a n c l) (h : k + 4 ≤ n) :
    Calls Tryz.prog 160 #[.slice a n c, .int .i64 k, .int .i64 4] w fun e w' => e = .returned (.tuple #[.int .u64 (le4 l k), .int .i64 0]) ∧ w = w' := by
  obtain ⟨b, o, rfl, hc⟩ := hb.cell (by omega)
  have hm := hb.cap; have hle := hb.le; unfold maxLen at hm
  have r0 := hb.range' k; have r1 := hb.range' (k + 1); have r2 := hb.range' (k + 2); have r3 := hb.range' (k + 3)
  have c0 := hc k (by omega); have c1 := hc (k + 1) (by omega); have c2 := hc (k + 2) (by omega); have c3 := hc (k + 3) (by omega)
  unfold le4
  rw [List.getD_eq_getElem?_getD] at c0 c1 c2 c3
  rw [List.getD_eq_getElem?_getD, List.getD_eq_getElem?_getD, List.getD_eq_getElem?_getD, List.getD_eq_getElem?_getD]
  clear hc hb
  go_enter Tryz.func160, Tryz.ntmps160
  go_wp2
  go_rounds 5
  go_returns
  exact ⟨ret_tup2 (by omega) rfl, rfl⟩
theorem infoU8 : (Tryz.prog.info? 5).map (fun i => (i.zero, i.size, i.bytes)) = some (some (.int .u8 0), 1, 1) := by kernel_rfl
theorem clone_some (x : Addr) (n c : Nat) (l : List Int) (w : World) (hb : Bs w (some x) n c l) (hbig : n ≤ 1000000000000) :
    Calls Tryz.prog 123 #[.slice (some x) n c] w fun e w' => ∃ v, e = .returned v ∧ w'.ownsRow w.heap.size 5 1 v n (l.map (Value.int .u8)) ∧ Below w.heap.size w w' := by
  obtain ⟨i0, hi, hz0, hz1, hz2⟩ := info_parts infoU8
  have hlen := hb.len
  have H : Hid (Bs w (some x) n c l) := hb
  have q22 : ∀ (w : World) (a : Option Addr) (n c n' c' : Nat), (binOp .eql 119 (.slice a n c) (.slice none n' c')).run Tryz.prog w = .ok (.bool a.isNone) w := fun w a n c n' c' => Lib.run_eql_slice_nil w _ _ a n c n' c' Tryz.underlying119
  clear hb
  go_enter Tryz.func123, Tryz.ntmps123
  go_wp2_with (at_builtin; refine wpList_append_own _ rfl _ _ 119 rfl w.heap.size 5 i0 (.int .u8 0) 1 1 Tryz.underlying119 hi hz0 hz1 hz2 rfl (by decide) _ _ _ rfl (World.ownsRow_made w #[] 0 (Nat.le_refl _) (Nat.zero_le _) rfl) x n c (l.map (Value.int .u8)) rfl ?qc1 ?qc2 ?qc3 ?qc4 ?qc5 ?qc6 ?_)
  case qc1 => simp; omega
  case qc2 => exact fun j u hj => H.out.news _ j u hj
  case qc3 => intro u hu; obtain ⟨x, _, rfl⟩ := List.mem_map.1 hu; rfl
  case qc4 => unfold maxLen; omega
  case qc5 => omega
  case qc6 => simp
  intro v' w1 hown hgrow hnil
  go_wp2
  go_returns
  exact ⟨v', rfl, by simpa using hown, ((Below.refl _ w).alloc (Nat.le_refl _) _).grown hgrow (by simp) (by intro k hk; simp [Value.ownBlock] at hk; omega)⟩
set_option maxRecDepth 100000
theorem with_on (a : Option Addr) (n c : Nat) (l : List Int) (i : Nat) (w : World) (hb : Bs w a n c l) (h : i / 8 < n) (hi' : i ≤ 9223372036854775807) (hbig : n ≤ 1000000000000) :
    Calls Tryz.prog 97 #[.slice a n c, .int .i64 i, .bool true] w fun e w' => ∃ v, e = .returned (.tuple #[v, .int .i64 0]) ∧ w'.ownsRow w.heap.size 5 1 v n ((putB l i true).map (Value.int .u8)) ∧ Below w.heap.size w w' := by
  obtain ⟨b, o, rfl, _⟩ := hb.cell (by omega)
  have r0 := hb.range' (i / 8)
  have hi : (i : Int) / 8 < n := by omega
  have hi0 : (0 : Int) ≤ (i : Int) / 8 := by omega
  have e : Hid _ := or_bit _ i r0
  have hq : IntKind.i64.wrap ((i : Int) / 8) = (i : Int) / 8 := by rw [IntKind.wrap_i64]; omega
  have hq2 : ((i : Int) / 8).toNat = i / 8 := by omega
  go_enter Tryz.func97, Tryz.ntmps97
  go_wp2_with (first
    | (go_at_call 122; refine (has_yes _ n c i w (by omega) (by omega) (by omega)).mono ?_; rintro e w' ⟨rfl, rfl⟩)
    | (go_at_call 123; refine (clone_some _ n c l w hb hbig).mono ?_; rintro e w1 ⟨v, he, hown, hbel⟩; obtain ⟨g, cap, rfl, hg, hgn, hgm⟩ := own_form hown (by omega); subst he))
  unfold maxLen at hgm
  have c1 := own_cell hown (i / 8) h
  have f1 := hown.frozenAt (i / 8)
  go_region_with (go_at_call 104; refine (mask_any _ _ hi').mono ?_; rintro e w' ⟨rfl, rfl⟩)
  all_goals go_wp2
  all_goals go_returns
  all_goals exact ⟨_, rfl, put_end hown hbel hg _ e.out⟩
theorem with_off (a : Option Addr) (n c : Nat) (l : List Int) (i : Nat) (w : World) (hb : Bs w a n c l) (h : i / 8 < n) (hi' : i ≤ 9223372036854775807) (hbig : n ≤ 1000000000000) :
    Calls Tryz.prog 97 #[.slice a n c, .int .i64 i, .bool false] w fun e w' => ∃ v, e = .returned (.tuple #[v, .int .i64 0]) ∧ w'.ownsRow w.heap.size 5 1 v n ((putB l i false).map (Value.int .u8)) ∧ Below w.heap.size w w' := by
  obtain ⟨b, o, rfl, _⟩ := hb.cell (by omega)
  have r0 := hb.range' (i / 8)
  have hi : (i : Int) / 8 < n := by omega
  have hi0 : (0 : Int) ≤ (i : Int) / 8 := by omega
  have e : Hid _ := not_bit _ i r0
  have hq : IntKind.i64.wrap ((i : Int) / 8) = (i : Int) / 8 := by rw [IntKind.wrap_i64]; omega
  have hq2 : ((i : Int) / 8).toNat = i / 8 := by omega
  go_enter Tryz.func97, Tryz.ntmps97
  go_wp2_with (first
    | (go_at_call 122; refine (has_yes _ n c i w (by omega) (by omega) (by omega)).mono ?_; rintro e w' ⟨rfl, rfl⟩)
    | (go_at_call 123; refine (clone_some _ n c l w hb hbig).mono ?_; rintro e w1 ⟨v, he, hown, hbel⟩; obtain ⟨g, cap, rfl, hg, hgn, hgm⟩ := own_form hown (by omega); subst he))
  unfold maxLen at hgm
  have c1 := own_cell hown (i / 8) h
  have f1 := hown.frozenAt (i / 8)
  go_region_with (go_at_call 104; refine (mask_any _ _ hi').mono ?_; rintro e w' ⟨rfl, rfl⟩)
  all_goals go_wp2
  all_goals go_returns
  all_goals exact ⟨_, rfl, put_end hown hbel hg _ e.out⟩
theorem with_ok (a : Option Addr) (n c : Nat) (l : List Int) (i : Nat) (on : Bool) (w : World) (hb : Bs w a n c l) (h : i / 8 < n) (hi' : i ≤ 9223372036854775807) (hbig : n ≤ 1000000000000) :
    Calls Tryz.prog 97 #[.slice a n c, .int .i64 i, .bool on] w fun e w' => ∃ v, e = .returned (.tuple #[v, .int .i64 0]) ∧ w'.ownsRow w.heap.size 5 1 v n ((putB l i on).map (Value.int .u8)) ∧ Below w.heap.size w w' := by
  cases on
  · exact with_off a n c l i w hb h hi' hbig
  · exact with_on a n c l i w hb h hi' hbig
set_option maxRecDepth 100000
theorem get16_ok (a : Option Addr) (n c : Nat) (l : List Int) (k : Nat) (w : World) (hb : Bs w a n c l) (h : k + 2 ≤ n) :
    Calls Tryz.prog 158 #[.slice a n c, .int .i64 k] w fun e w' => e = .returned (.tuple #[.int .u16 (le2 l k), .int .i64 0]) ∧ w = w' := by
  have hr := le2_range hb k
  go_enter Tryz.func158, Tryz.ntmps158
  go_wp2_with (go_at_call 153; refine (get2_ok a n c l k w hb h).mono ?_; rintro e w' ⟨rfl, rfl⟩)
  go_returns
  refine ⟨?_, rfl⟩
  exact ret_tup2 (by first | rfl | omega | (rw [IntKind.wrap_u16]; omega)) rfl
theorem get32_ok (a : Option Addr) (n c : Nat) (l : List Int) (k : Nat) (w : World) (hb : Bs w a n c l) (h : k + 4 ≤ n) :
    Calls Tryz.prog 130 #[.slice a n c, .int .i64 k] w fun e w' => e = .returned (.tuple #[.int .u32 (le4 l k), .int .i64 0]) ∧ w = w' := by
  go_enter Tryz.func130, Tryz.ntmps130
  go_wp2_with (go_at_call 153; refine (get4_ok a n c l k w hb h).mono ?_; rintro e w' ⟨rfl, rfl⟩)
  go_returns
  exact ⟨rfl, rfl⟩
theorem rget16_ok (a : Option Addr) (n c : Nat) (l : List Int) (k : Nat) (w : World) (hb : Bs w a n c l) (h : k + 2 ≤ n) :
    Calls Tryz.prog 140 #[.slice a n c, .int .i64 k] w fun e w' => e = .returned (.tuple #[.int .u16 (le2 l k), .int .i64 0]) ∧ w = w' := by
  have hr := le2_range hb k
  go_enter Tryz.func140, Tryz.ntmps140
  go_wp2_with (go_at_call 160; refine (number2_ok a n c l k w hb h).mono ?_; rintro e w' ⟨rfl, rfl⟩)
  go_returns
  refine ⟨?_, rfl⟩
  exact ret_tup2 (by first | rfl | omega | (rw [IntKind.wrap_u16]; omega)) rfl
theorem rget32_ok (a : Option Addr) (n c : Nat) (l : List Int) (k : Nat) (w : World) (hb : Bs w a n c l) (h : k + 4 ≤ n) :
    Calls Tryz.prog 139 #[.slice a n c, .int .i64 k] w fun e w' => e = .returned (.tuple #[.int .u32 (le4 l k), .int .i64 0]) ∧ w = w' := by
  have hr := le4_range hb k
  go_enter Tryz.func139, Tryz.ntmps139
  go_wp2_with (go_at_call 160; refine (number4_ok a n c l k w hb h).mono ?_; rintro e w' ⟨rfl, rfl⟩)
  go_returns
  refine ⟨?_, rfl⟩
  exact ret_tup2 (by first | rfl | omega | (rw [IntKind.wrap_u32']; omega)) rfl
def v2 (l : List Int) (n : Nat) (k : Int) : Int := if 0 ≤ k ∧ k + 2 ≤ n then le2 l k.toNat else 0
def e2 (n : Nat) (k : Int) : Int := if 0 ≤ k ∧ k + 2 ≤ n then 0 else 7
def v4 (l : List Int) (n : Nat) (k : Int) : Int := if 0 ≤ k ∧ k + 4 ≤ n then le4 l k.toNat else 0
def e4 (n : Nat) (k : Int) : Int := if 0 ≤ k ∧ k + 4 ≤ n then 0 else 7
def vb (l : List Int) (n : Nat) (i : Int) : Bool := decide (0 ≤ i ∧ i / 8 < n) && bitB l i.toNat
def nw (n : Nat) (i : Int) : Nat := if 0 ≤ i ∧ i / 8 < n then n else 0
end Go.Proofs.YtennaimdffohfaaGreatDoor
