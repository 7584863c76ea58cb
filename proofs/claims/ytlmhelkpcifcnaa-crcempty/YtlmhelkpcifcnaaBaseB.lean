/-
  What scupperbase.Bytes returns, for every input: no statement is proved here.
-/
import Derived.Test.YtlmhelkpcifcnaaRows
import Derived.Test.YtlmhelkpcifcnaaPlain3
import Derived.Laws.AppendOwnNone
namespace Go.Proofs.Ytlmhelkpcifcnaa
open Go.ChangeShapes Go.WideShapes Go.ChangeAt Go.RowKit
set_option linter.unusedVariables false

theorem infoU8 : (Try.prog.info? 5).map (fun i => (i.zero, i.size, i.bytes)) = some (some (.int .u8 0), 1, 1) := by kernel_rfl

theorem bytes_any (a : Option Addr) (n c : Nat) (l : List Int) (w : World) (hb : Bs w a n c l) (hbig : n ≤ 1000000000000) :
    Calls Try.prog 10 #[.slice a n c] w fun e w' => ∃ g cap, e = .returned (.slice (some ⟨g, 0, none⟩) n cap) ∧ w'.ownsRow w.heap.size 5 1 (.slice (some ⟨g, 0, none⟩) n cap) n (l.map (Value.int .u8)) ∧ Below w.heap.size w w' := by
  obtain ⟨i0, hi, hz0, hz1, hz2⟩ := info_parts infoU8
  have hlen := hb.len
  have H : Hid (Bs w a n c l) := hb
  cases a with
  | none =>
    have h0 := hb.nil rfl; have h1 := hb.le
    obtain rfl : c = 0 := h0
    obtain rfl : n = 0 := by omega
    obtain rfl : l = [] := List.eq_nil_of_length_eq_zero hb.len
    clear hb
    go_enter Try.func10, Try.ntmps10
    go_wp2_with (at_builtin; refine wpList_append_own_none rfl _ _ 23 rfl w.heap.size 5 i0 1 Try.underlying23 hi _ _ _ rfl (World.ownsRow_made w #[] 0 (Nat.le_refl _) (Nat.zero_le _) rfl) rfl ?_)
    go_returns
    exact ⟨_, _, rfl, World.ownsRow_made w #[] 0 (Nat.le_refl _) (Nat.zero_le _) rfl, by go_grown⟩
  | some x =>
    clear hb
    go_enter Try.func10, Try.ntmps10
    go_wp2_with (at_builtin; refine wpList_append_own _ rfl _ _ 23 rfl w.heap.size 5 i0 (.int .u8 0) 1 1 Try.underlying23 hi hz0 hz1 hz2 rfl (by decide) _ _ _ rfl (World.ownsRow_made w #[] 0 (Nat.le_refl _) (Nat.zero_le _) rfl) x n c (l.map (Value.int .u8)) rfl ?qc1 ?qc2 ?qc3 ?qc4 ?qc5 ?qc6 ?_)
    case qc1 => simp; omega
    case qc2 => exact fun j u hj => H.out.news _ j u hj
    case qc3 => intro u hu; obtain ⟨x, _, rfl⟩ := List.mem_map.1 hu; rfl
    case qc4 => unfold maxLen; omega
    case qc5 => omega
    case qc6 => simp
    intro v' w1 hown hgrow hnil
    go_wp2
    go_returns
    obtain ⟨g, cap, rfl, _⟩ := own_some hown hnil
    exact ⟨g, cap, rfl, hown, ((Below.refl _ w).alloc (Nat.le_refl _) _).grown hgrow (by simp) (by intro k hk; simp [Value.ownBlock] at hk; omega)⟩

theorem bytes_bs (a : Option Addr) (n c : Nat) (l : List Int) (w : World) (hb : Bs w a n c l) (hbig : n ≤ 1000000000000) :
    Calls Try.prog 10 #[.slice a n c] w fun e w' => ∃ a' c', e = .returned (.slice a' n c') ∧ Bs w' a' n c' l ∧ Below w.heap.size w w' := by
  refine (bytes_any a n c l w hb hbig).mono ?_
  rintro e w' ⟨g, cap, rfl, hown, hbel⟩
  exact ⟨_, _, rfl, own_bs' hown hb.byte, hbel⟩
/-- The same: the copy's own block, that may be written. -/
theorem bytes_own (a : Option Addr) (n c : Nat) (l : List Int) (w : World) (hb : Bs w a n c l) (hbig : n ≤ 1000000000000) :
    Calls Try.prog 10 #[.slice a n c] w fun e w' => ∃ g c', e = .returned (.slice (some ⟨g, 0, none⟩) n c') ∧ w.heap.size ≤ g ∧ Bs w' (some ⟨g, 0, none⟩) n c' l ∧ (∀ j, w'.frozen? ⟨g, j, none⟩ = false) ∧ Below w.heap.size w w' := by
  refine (bytes_any a n c l w hb hbig).mono ?_
  rintro e w' ⟨g, cap, rfl, hown, hbel⟩
  exact ⟨g, cap, rfl, (own_lt hown).1, own_bs' hown hb.byte, fun j => hown.frozenAt j, hbel⟩
/-- A byte is stored. -/
theorem Bs.setAt {w : World} {g n c : Nat} {l : List Int} (h : Bs w (some ⟨g, 0, none⟩) n c l) (i : Nat) (hi : i < n) (y : Int) (hy : 0 ≤ y ∧ y ≤ 255) : Bs (w.setCell ⟨g, i, none⟩ (.int .u8 y)) (some ⟨g, 0, none⟩) n c (l.set i y) := by
  obtain ⟨b, o, e, hc⟩ := h.cell (by omega)
  injection e with e; injection e with e1 e2; subst e1; subst e2
  refine ⟨by rw [List.length_set]; exact h.len, h.le, h.cap, (fun h => by cases h), fun x hx => ?_, fun _ => ⟨g, 0, rfl, fun j hj => ?_⟩⟩
  · rcases List.mem_or_eq_of_mem_set hx with h1 | rfl
    · exact h.byte x h1
    · exact hy
  · have hcj := hc j hj
    have hl := h.len
    rw [Nat.zero_add] at hcj ⊢
    by_cases e : i = j
    · subst e
      rw [World.cell?_setCell_same _ _ _ hcj, List.getD_eq_getElem?_getD, List.getElem?_set_self (by omega)]; rfl
    · rw [World.cell?_setCell_other _ _ _ _ (fun h => e (by injection h)), hcj, List.getD_eq_getElem?_getD, List.getD_eq_getElem?_getD, List.getElem?_set_ne e]
end Go.Proofs.Ytlmhelkpcifcnaa
