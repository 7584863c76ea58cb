/-
  What the functions of layer 1 and of its reference that change a bit return, each for every input: no statement is proved here.
-/
import Derived.Test.YthanenbjfcndbaaNumD
namespace Go.Proofs.Ythanenbjfcndbaa
open Go.ChangeShapes Go.WideShapes Go.ChangeAt Go.RowKit
set_option linter.unusedVariables false

theorem with_no (a : Option Addr) (n c : Nat) (i : Int) (on : Bool) (w : World) (hc : n ≤ 9223372036854775807) (h1 : -9223372036854775808 ≤ i) (h2 : i ≤ 9223372036854775807) (h : ¬ (0 ≤ i ∧ i / 8 < n)) :
    Calls Try.prog 32 #[.slice a n c, .int .i64 i, .bool on] w fun e w' => e = .returned (.tuple #[.slice none 0 0, .int .i64 2]) ∧ w = w' := by
  have H : Hid (¬ (0 ≤ i ∧ i / 8 < n)) := h
  clear h
  go_enter Try.func32, Try.ntmps32
  go_wp2_with (go_at_call 43; refine (has_no a n c i w (by omega) (by omega) (by omega) H.out).mono ?_; rintro e w' ⟨rfl, rfl⟩)
  go_returns
  exact ⟨rfl, rfl⟩

theorem with_on (a : Option Addr) (n c : Nat) (l : List Int) (i : Nat) (w : World) (hb : Bs w a n c l) (h : i / 8 < n) (hi' : i ≤ 9223372036854775807) (hbig : n ≤ 1000000000000) :
    Calls Try.prog 32 #[.slice a n c, .int .i64 i, .bool true] w fun e w' => ∃ v, e = .returned (.tuple #[v, .int .i64 0]) ∧ w'.ownsRow w.heap.size 5 1 v n ((putB l i true).map (Value.int .u8)) ∧ Below w.heap.size w w' := by
  obtain ⟨b, o, rfl, _⟩ := hb.cell (by omega)
  have r0 := hb.range' (i / 8)
  have hi : (i : Int) / 8 < n := by omega
  have hi0 : (0 : Int) ≤ (i : Int) / 8 := by omega
  have e : Hid _ := or_bit _ i r0
  have hq : IntKind.i64.wrap ((i : Int) / 8) = (i : Int) / 8 := by rw [IntKind.wrap_i64]; omega
  have hq2 : ((i : Int) / 8).toNat = i / 8 := by omega
  go_enter Try.func32, Try.ntmps32
  go_wp2_with (first
    | (go_at_call 43; refine (has_yes _ n c i w (by omega) (by omega) (by omega)).mono ?_; rintro e w' ⟨rfl, rfl⟩)
    | (go_at_call 46; refine (clone_some _ n c l w hb hbig).mono ?_; rintro e w1 ⟨v, he, hown, hbel⟩; obtain ⟨g, cap, rfl, hg, hgn, hgm⟩ := own_form hown (by omega); subst he))
  unfold maxLen at hgm
  have c1 := own_cell hown (i / 8) h
  have f1 := hown.frozenAt (i / 8)
  go_region_with (go_at_call 47; refine (mask_any _ _ hi').mono ?_; rintro e w' ⟨rfl, rfl⟩)
  all_goals go_wp2
  all_goals go_returns
  all_goals exact ⟨_, rfl, put_end hown hbel hg _ e.out⟩

theorem with_off (a : Option Addr) (n c : Nat) (l : List Int) (i : Nat) (w : World) (hb : Bs w a n c l) (h : i / 8 < n) (hi' : i ≤ 9223372036854775807) (hbig : n ≤ 1000000000000) :
    Calls Try.prog 32 #[.slice a n c, .int .i64 i, .bool false] w fun e w' => ∃ v, e = .returned (.tuple #[v, .int .i64 0]) ∧ w'.ownsRow w.heap.size 5 1 v n ((putB l i false).map (Value.int .u8)) ∧ Below w.heap.size w w' := by
  obtain ⟨b, o, rfl, _⟩ := hb.cell (by omega)
  have r0 := hb.range' (i / 8)
  have hi : (i : Int) / 8 < n := by omega
  have hi0 : (0 : Int) ≤ (i : Int) / 8 := by omega
  have e : Hid _ := not_bit _ i r0
  have hq : IntKind.i64.wrap ((i : Int) / 8) = (i : Int) / 8 := by rw [IntKind.wrap_i64]; omega
  have hq2 : ((i : Int) / 8).toNat = i / 8 := by omega
  go_enter Try.func32, Try.ntmps32
  go_wp2_with (first
    | (go_at_call 43; refine (has_yes _ n c i w (by omega) (by omega) (by omega)).mono ?_; rintro e w' ⟨rfl, rfl⟩)
    | (go_at_call 46; refine (clone_some _ n c l w hb hbig).mono ?_; rintro e w1 ⟨v, he, hown, hbel⟩; obtain ⟨g, cap, rfl, hg, hgn, hgm⟩ := own_form hown (by omega); subst he))
  unfold maxLen at hgm
  have c1 := own_cell hown (i / 8) h
  have f1 := hown.frozenAt (i / 8)
  go_region_with (go_at_call 47; refine (mask_any _ _ hi').mono ?_; rintro e w' ⟨rfl, rfl⟩)
  all_goals go_wp2
  all_goals go_returns
  all_goals exact ⟨_, rfl, put_end hown hbel hg _ e.out⟩

theorem with_ok (a : Option Addr) (n c : Nat) (l : List Int) (i : Nat) (on : Bool) (w : World) (hb : Bs w a n c l) (h : i / 8 < n) (hi' : i ≤ 9223372036854775807) (hbig : n ≤ 1000000000000) :
    Calls Try.prog 32 #[.slice a n c, .int .i64 i, .bool on] w fun e w' => ∃ v, e = .returned (.tuple #[v, .int .i64 0]) ∧ w'.ownsRow w.heap.size 5 1 v n ((putB l i on).map (Value.int .u8)) ∧ Below w.heap.size w w' := by
  cases on
  · exact with_off a n c l i w hb h hi' hbig
  · exact with_on a n c l i w hb h hi' hbig

theorem rwith_no (a : Option Addr) (n c : Nat) (i : Int) (on : Bool) (w : World) (hc : n ≤ 9223372036854775807) (h1 : -9223372036854775808 ≤ i) (h2 : i ≤ 9223372036854775807) (h : ¬ (0 ≤ i ∧ i / 8 < n)) :
    Calls Try.prog 33 #[.slice a n c, .int .i64 i, .bool on] w fun e w' => e = .returned (.tuple #[.slice none 0 0, .int .i64 2]) ∧ w = w' := by
  have H : Hid (¬ (0 ≤ i ∧ i / 8 < n)) := h
  clear h
  go_enter Try.func33, Try.ntmps33
  go_wp2_with (go_at_call 31; refine (rbit_no a n c i w (by omega) (by omega) (by omega) H.out).mono ?_; rintro e w' ⟨rfl, rfl⟩)
  go_returns
  exact ⟨rfl, rfl⟩

theorem rwith_up (a : Option Addr) (n c : Nat) (l : List Int) (i : Nat) (w : World) (hb : Bs w a n c l) (h : i / 8 < n) (hi' : i ≤ 9223372036854775807) (hbig : n ≤ 1000000000000) (hw : bitB l i = false) :
    Calls Try.prog 33 #[.slice a n c, .int .i64 i, .bool true] w fun e w' => ∃ v, e = .returned (.tuple #[v, .int .i64 0]) ∧ w'.ownsRow w.heap.size 5 1 v n ((putB l i true).map (Value.int .u8)) ∧ Below w.heap.size w w' := by
  obtain ⟨b, o, rfl, _⟩ := hb.cell (by omega)
  obtain ⟨i0, hin, hz0, hz1, hz2⟩ := info_parts infoU8
  have r0 := hb.range' (i / 8)
  have hi : (i : Int) / 8 < n := by omega
  have hi0 : (0 : Int) ≤ (i : Int) / 8 := by omega
  have e : Hid _ := putX_up (l[i / 8]?.getD 0) i (by unfold bitB at hw; rwa [List.getD_eq_getElem?_getD] at hw)
  have hpr := putX_range (l[i / 8]?.getD 0) i true r0
  rw [← e.out] at hpr
  have hp := p2_range i
  have hq : IntKind.i64.wrap ((i : Int) / 8) = (i : Int) / 8 := by rw [IntKind.wrap_i64]; omega
  have hq2 : ((i : Int) / 8).toNat = i / 8 := by omega
  have H : Hid (Bs w (some ⟨b, o, none⟩) n c l) := hb
  go_enter Try.func33, Try.ntmps33
  go_wp2_with (first
    | (go_at_call 31; refine (rbit_ok _ n c l i w hb h hi').mono ?_; rintro e w' ⟨rfl, k, rfl⟩)
    | (at_builtin; refine wpList_append_own _ rfl _ _ 48 rfl w.heap.size 5 i0 (.int .u8 0) 1 1 Try.underlying48 hin hz0 hz1 hz2 rfl (by decide) _ _ _ rfl (World.ownsRow_made _ #[] 0 (Nat.le_refl _) (Nat.zero_le _) rfl) ⟨b, o, none⟩ n c (l.map (Value.int .u8)) rfl ?qc1 ?qc2 ?qc3 ?qc4 ?qc5 ?qc6 ?_))
  case qc1 => have := H.out.len; simp; omega
  case qc2 => exact fun j u hj => H.out.news _ j u hj
  case qc3 => intro u hu; obtain ⟨x, _, rfl⟩ := List.mem_map.1 hu; rfl
  case qc4 => unfold maxLen; omega
  case qc5 => omega
  case qc6 => simp
  intro v w1 hown hgrow _
  have hbel : Below w.heap.size w w1 := ((below_drewN w k).alloc (Nat.le_refl _) _).grown hgrow (by simp) (by intro k hk; simp [Value.ownBlock] at hk; omega)
  obtain ⟨g, cap, rfl, hg, hgn, hgm⟩ := own_form hown (by omega)
  unfold maxLen at hgm
  have c1 := own_cell hown (i / 8) h
  have f1 := hown.frozenAt (i / 8)
  clear hgrow
  go_wp2
  go_region_with (go_at_call 45; refine (power_p2 _ _).mono ?_; rintro e w' ⟨rfl, rfl⟩)
  all_goals go_wp2
  all_goals go_returns
  all_goals exact ⟨_, rfl, put_end hown hbel hg _ (by have := e.out; first | omega | (rw [IntKind.wrap_u8', IntKind.wrap_u8']; omega))⟩

theorem rwith_down (a : Option Addr) (n c : Nat) (l : List Int) (i : Nat) (w : World) (hb : Bs w a n c l) (h : i / 8 < n) (hi' : i ≤ 9223372036854775807) (hbig : n ≤ 1000000000000) (hw : bitB l i = true) :
    Calls Try.prog 33 #[.slice a n c, .int .i64 i, .bool false] w fun e w' => ∃ v, e = .returned (.tuple #[v, .int .i64 0]) ∧ w'.ownsRow w.heap.size 5 1 v n ((putB l i false).map (Value.int .u8)) ∧ Below w.heap.size w w' := by
  obtain ⟨b, o, rfl, _⟩ := hb.cell (by omega)
  obtain ⟨i0, hin, hz0, hz1, hz2⟩ := info_parts infoU8
  have r0 := hb.range' (i / 8)
  have hi : (i : Int) / 8 < n := by omega
  have hi0 : (0 : Int) ≤ (i : Int) / 8 := by omega
  have e : Hid _ := putX_down (l[i / 8]?.getD 0) i (by unfold bitB at hw; rwa [List.getD_eq_getElem?_getD] at hw)
  have hpr := putX_range (l[i / 8]?.getD 0) i false r0
  rw [← e.out] at hpr
  have hp := p2_range i
  have hq : IntKind.i64.wrap ((i : Int) / 8) = (i : Int) / 8 := by rw [IntKind.wrap_i64]; omega
  have hq2 : ((i : Int) / 8).toNat = i / 8 := by omega
  have H : Hid (Bs w (some ⟨b, o, none⟩) n c l) := hb
  go_enter Try.func33, Try.ntmps33
  go_wp2_with (first
    | (go_at_call 31; refine (rbit_ok _ n c l i w hb h hi').mono ?_; rintro e w' ⟨rfl, k, rfl⟩)
    | (at_builtin; refine wpList_append_own _ rfl _ _ 48 rfl w.heap.size 5 i0 (.int .u8 0) 1 1 Try.underlying48 hin hz0 hz1 hz2 rfl (by decide) _ _ _ rfl (World.ownsRow_made _ #[] 0 (Nat.le_refl _) (Nat.zero_le _) rfl) ⟨b, o, none⟩ n c (l.map (Value.int .u8)) rfl ?qc1 ?qc2 ?qc3 ?qc4 ?qc5 ?qc6 ?_))
  case qc1 => have := H.out.len; simp; omega
  case qc2 => exact fun j u hj => H.out.news _ j u hj
  case qc3 => intro u hu; obtain ⟨x, _, rfl⟩ := List.mem_map.1 hu; rfl
  case qc4 => unfold maxLen; omega
  case qc5 => omega
  case qc6 => simp
  intro v w1 hown hgrow _
  have hbel : Below w.heap.size w w1 := ((below_drewN w k).alloc (Nat.le_refl _) _).grown hgrow (by simp) (by intro k hk; simp [Value.ownBlock] at hk; omega)
  obtain ⟨g, cap, rfl, hg, hgn, hgm⟩ := own_form hown (by omega)
  unfold maxLen at hgm
  have c1 := own_cell hown (i / 8) h
  have f1 := hown.frozenAt (i / 8)
  clear hgrow
  go_wp2
  go_region_with (go_at_call 45; refine (power_p2 _ _).mono ?_; rintro e w' ⟨rfl, rfl⟩)
  all_goals go_wp2
  all_goals go_returns
  all_goals exact ⟨_, rfl, put_end hown hbel hg _ (by have := e.out; first | omega | (rw [IntKind.wrap_u8', IntKind.wrap_u8']; omega))⟩

theorem rwith_on (a : Option Addr) (n c : Nat) (l : List Int) (i : Nat) (w : World) (hb : Bs w a n c l) (h : i / 8 < n) (hi' : i ≤ 9223372036854775807) (hbig : n ≤ 1000000000000) (hw : bitB l i = true) :
    Calls Try.prog 33 #[.slice a n c, .int .i64 i, .bool true] w fun e w' => ∃ v, e = .returned (.tuple #[v, .int .i64 0]) ∧ w'.ownsRow w.heap.size 5 1 v n ((putB l i true).map (Value.int .u8)) ∧ Below w.heap.size w w' := by
  obtain ⟨b, o, rfl, _⟩ := hb.cell (by omega)
  obtain ⟨i0, hin, hz0, hz1, hz2⟩ := info_parts infoU8
  have r0 := hb.range' (i / 8)
  have hi : (i : Int) / 8 < n := by omega
  have hi0 : (0 : Int) ≤ (i : Int) / 8 := by omega
  have hq : IntKind.i64.wrap ((i : Int) / 8) = (i : Int) / 8 := by rw [IntKind.wrap_i64]; omega
  have hq2 : ((i : Int) / 8).toNat = i / 8 := by omega
  have H : Hid (Bs w (some ⟨b, o, none⟩) n c l) := hb
  go_enter Try.func33, Try.ntmps33
  go_wp2_with (first
    | (go_at_call 31; refine (rbit_ok _ n c l i w hb h hi').mono ?_; rintro e w' ⟨rfl, k, rfl⟩)
    | (at_builtin; refine wpList_append_own _ rfl _ _ 48 rfl w.heap.size 5 i0 (.int .u8 0) 1 1 Try.underlying48 hin hz0 hz1 hz2 rfl (by decide) _ _ _ rfl (World.ownsRow_made _ #[] 0 (Nat.le_refl _) (Nat.zero_le _) rfl) ⟨b, o, none⟩ n c (l.map (Value.int .u8)) rfl ?qc1 ?qc2 ?qc3 ?qc4 ?qc5 ?qc6 ?_))
  case qc1 => have := H.out.len; simp; omega
  case qc2 => exact fun j u hj => H.out.news _ j u hj
  case qc3 => intro u hu; obtain ⟨x, _, rfl⟩ := List.mem_map.1 hu; rfl
  case qc4 => unfold maxLen; omega
  case qc5 => omega
  case qc6 => simp
  intro v w1 hown hgrow _
  have hbel : Below w.heap.size w w1 := ((below_drewN w k).alloc (Nat.le_refl _) _).grown hgrow (by simp) (by intro k hk; simp [Value.ownBlock] at hk; omega)
  obtain ⟨g, cap, rfl, hg, hgn, hgm⟩ := own_form hown (by omega)
  unfold maxLen at hgm
  have c1 := own_cell hown (i / 8) h
  have f1 := hown.frozenAt (i / 8)
  clear hgrow
  go_wp2
  go_returns
  exact ⟨_, rfl, by rw [putB_same l i _ hw]; exact hown, hbel⟩

theorem rwith_off (a : Option Addr) (n c : Nat) (l : List Int) (i : Nat) (w : World) (hb : Bs w a n c l) (h : i / 8 < n) (hi' : i ≤ 9223372036854775807) (hbig : n ≤ 1000000000000) (hw : bitB l i = false) :
    Calls Try.prog 33 #[.slice a n c, .int .i64 i, .bool false] w fun e w' => ∃ v, e = .returned (.tuple #[v, .int .i64 0]) ∧ w'.ownsRow w.heap.size 5 1 v n ((putB l i false).map (Value.int .u8)) ∧ Below w.heap.size w w' := by
  obtain ⟨b, o, rfl, _⟩ := hb.cell (by omega)
  obtain ⟨i0, hin, hz0, hz1, hz2⟩ := info_parts infoU8
  have r0 := hb.range' (i / 8)
  have hi : (i : Int) / 8 < n := by omega
  have hi0 : (0 : Int) ≤ (i : Int) / 8 := by omega
  have hq : IntKind.i64.wrap ((i : Int) / 8) = (i : Int) / 8 := by rw [IntKind.wrap_i64]; omega
  have hq2 : ((i : Int) / 8).toNat = i / 8 := by omega
  have H : Hid (Bs w (some ⟨b, o, none⟩) n c l) := hb
  go_enter Try.func33, Try.ntmps33
  go_wp2_with (first
    | (go_at_call 31; refine (rbit_ok _ n c l i w hb h hi').mono ?_; rintro e w' ⟨rfl, k, rfl⟩)
    | (at_builtin; refine wpList_append_own _ rfl _ _ 48 rfl w.heap.size 5 i0 (.int .u8 0) 1 1 Try.underlying48 hin hz0 hz1 hz2 rfl (by decide) _ _ _ rfl (World.ownsRow_made _ #[] 0 (Nat.le_refl _) (Nat.zero_le _) rfl) ⟨b, o, none⟩ n c (l.map (Value.int .u8)) rfl ?qc1 ?qc2 ?qc3 ?qc4 ?qc5 ?qc6 ?_))
  case qc1 => have := H.out.len; simp; omega
  case qc2 => exact fun j u hj => H.out.news _ j u hj
  case qc3 => intro u hu; obtain ⟨x, _, rfl⟩ := List.mem_map.1 hu; rfl
  case qc4 => unfold maxLen; omega
  case qc5 => omega
  case qc6 => simp
  intro v w1 hown hgrow _
  have hbel : Below w.heap.size w w1 := ((below_drewN w k).alloc (Nat.le_refl _) _).grown hgrow (by simp) (by intro k hk; simp [Value.ownBlock] at hk; omega)
  obtain ⟨g, cap, rfl, hg, hgn, hgm⟩ := own_form hown (by omega)
  unfold maxLen at hgm
  have c1 := own_cell hown (i / 8) h
  have f1 := hown.frozenAt (i / 8)
  clear hgrow
  go_wp2
  go_returns
  exact ⟨_, rfl, by rw [putB_same l i _ hw]; exact hown, hbel⟩

theorem rwith_ok (a : Option Addr) (n c : Nat) (l : List Int) (i : Nat) (on : Bool) (w : World) (hb : Bs w a n c l) (h : i / 8 < n) (hi' : i ≤ 9223372036854775807) (hbig : n ≤ 1000000000000) :
    Calls Try.prog 33 #[.slice a n c, .int .i64 i, .bool on] w fun e w' => ∃ v, e = .returned (.tuple #[v, .int .i64 0]) ∧ w'.ownsRow w.heap.size 5 1 v n ((putB l i on).map (Value.int .u8)) ∧ Below w.heap.size w w' := by
  cases on <;> cases hw : bitB l i
  · exact rwith_off a n c l i w hb h hi' hbig hw
  · exact rwith_down a n c l i w hb h hi' hbig hw
  · exact rwith_up a n c l i w hb h hi' hbig hw
  · exact rwith_on a n c l i w hb h hi' hbig hw
end Go.Proofs.Ythanenbjfcndbaa
