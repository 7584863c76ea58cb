/-
  What the functions of layer 1 and of its reference that tell and copy bytes return, each for every input: no statement is proved here.
-/
import Derived.Test.YthanenbjfcndbaaNumC
import Derived.Laws.AppendOwnNone
namespace Go.Proofs.Ythanenbjfcndbaa
open Go.ChangeShapes Go.WideShapes Go.ChangeAt Go.RowKit
set_option linter.unusedVariables false

theorem infoU8 : (Try.prog.info? 5).map (fun i => (i.zero, i.size, i.bytes)) = some (some (.int .u8 0), 1, 1) := by kernel_rfl

theorem rbit_ok (a : Option Addr) (n c : Nat) (l : List Int) (i : Nat) (w : World) (hb : Bs w a n c l) (h : i / 8 < n) (hi' : i ≤ 9223372036854775807) :
    Calls Try.prog 31 #[.slice a n c, .int .i64 i] w fun e w' => e = .returned (.tuple #[.bool (bitB l i), .int .i64 0]) ∧ ∃ k, w' = w.drewN k := by
  obtain ⟨b, o, rfl, hc⟩ := hb.cell (by omega)
  have hm := hb.cap; have hle := hb.le; unfold maxLen at hm
  have r0 := hb.range' (i / 8)
  have c0 := hc (i / 8) (by omega)
  have hi : (i : Int) / 8 < n := by omega
  have hi0 : ¬ (i : Int) < 0 := by omega
  have hp := p2_range i
  have e : Hid (((l[i / 8]?.getD 0 / p2 i).tmod 2 == 1) = bitB l i) := by
    show (_ == _) = _
    unfold bitB
    rw [Int.tmod_eq_emod_of_nonneg (Int.ediv_nonneg r0.1 (by omega)), List.getD_eq_getElem?_getD]
  rw [List.getD_eq_getElem?_getD] at c0
  clear hc hb
  go_enter Try.func31, Try.ntmps31
  go_wp2
  go_quiet ((go_at_call 45; exact Calls.quiet_of_same (power_p2 _ _)))
  go_wp2
  go_returns
  exact ⟨by rw [← e.out]; rfl, _, rfl⟩

theorem rbit_no (a : Option Addr) (n c : Nat) (i : Int) (w : World) (hc : n ≤ 9223372036854775807) (h1 : -9223372036854775808 ≤ i) (h2 : i ≤ 9223372036854775807) (h : ¬ (0 ≤ i ∧ i / 8 < n)) :
    Calls Try.prog 31 #[.slice a n c, .int .i64 i] w fun e w' => e = .returned (.tuple #[.bool false, .int .i64 2]) ∧ w = w' := by
  by_cases h0 : i < 0
  · clear h
    go_enter Try.func31, Try.ntmps31
    go_wp2
    go_returns
    exact ⟨rfl, rfl⟩
  · have h3 : ¬ i / 8 < n := fun h' => h ⟨by omega, h'⟩
    clear h
    go_enter Try.func31, Try.ntmps31
    go_wp2
    go_returns
    exact ⟨rfl, rfl⟩

theorem clone_some (x : Addr) (n c : Nat) (l : List Int) (w : World) (hb : Bs w (some x) n c l) (hbig : n ≤ 1000000000000) :
    Calls Try.prog 46 #[.slice (some x) n c] w fun e w' => ∃ v, e = .returned v ∧ w'.ownsRow w.heap.size 5 1 v n (l.map (Value.int .u8)) ∧ Below w.heap.size w w' := by
  obtain ⟨i0, hi, hz0, hz1, hz2⟩ := info_parts infoU8
  have hlen := hb.len
  have H : Hid (Bs w (some x) n c l) := hb
  have q22 : ∀ (w : World) (a : Option Addr) (n c n' c' : Nat), (binOp .eql 48 (.slice a n c) (.slice none n' c')).run Try.prog w = .ok (.bool a.isNone) w := fun w a n c n' c' => Lib.run_eql_slice_nil w _ _ a n c n' c' Try.underlying48
  clear hb
  go_enter Try.func46, Try.ntmps46
  go_wp2_with (at_builtin; refine wpList_append_own _ rfl _ _ 48 rfl w.heap.size 5 i0 (.int .u8 0) 1 1 Try.underlying48 hi hz0 hz1 hz2 rfl (by decide) _ _ _ rfl (World.ownsRow_made w #[] 0 (Nat.le_refl _) (Nat.zero_le _) rfl) x n c (l.map (Value.int .u8)) rfl ?qc1 ?qc2 ?qc3 ?qc4 ?qc5 ?qc6 ?_)
  case qc1 => simp; omega
  case qc2 => exact fun j u hj => H.out.news _ j u hj
  case qc3 => intro u hu; obtain ⟨x, _, rfl⟩ := List.mem_map.1 hu; rfl
  case qc4 => unfold maxLen; omega
  case qc5 => omega
  case qc6 => simp
  intro v' w1 hown hgrow hnil
  go_wp2
  go_returns
  exact ⟨v', rfl, by simpa using hown, ((Below.refl _ w).alloc (Nat.le_refl _) _).grown hgrow (by simp) (by intro k hk; simp [Value.ownBlock] at hk; omega)⟩

end Go.Proofs.Ythanenbjfcndbaa
