/-
  What IndexFunc and ContainsFunc of package slices return, of numbers: no statement is proved here.
-/
import Derived.Test.YtdfifneikmlmoaaGreatOwG
namespace Go.Proofs.YtdfifneikmlmoaaGreat
open Go.ChangeShapes Go.WideShapes Go.ChangeAt Go.RowKit
set_option linter.unusedVariables false
set_option linter.unusedSimpArgs false

/-- A function value that tells of a number. -/
def TellsN (w : World) (fi : FuncId) (lb : Array Value) (l : List Int) (q : Int → Bool) : Prop :=
  ∀ (u : World) (x : Int), x ∈ l → Below w.heap.size w u → Calls Tryz.prog fi (#[.int .i64 x] ++ lb) u fun e u' => e = .returned (.bool (q x)) ∧ Below u.heap.size u u'
theorem take_any {l : List Int} {k : Nat} {q : Int → Bool} (h : (l.take k).any q = true) : l.any q = true := by
  rw [← List.take_append_drop k l, List.any_append, h]; rfl
set_option maxRecDepth 100000 in
set_option maxHeartbeats 2000000 in
theorem indexFunc_any {w : World} {s : Sv} {l : List Int} (h : InsS w s l) (hm : l.length ≤ 1000000) (fi : FuncId) (lb : Array Value) (q : Int → Bool) (hq : TellsN w fi lb l q) (eg : ∀ args w, (callFunc fi args).run Tryz.prog w = .ok (.enter fi args) w) :
    Calls Tryz.prog 84 #[.slice s.a s.n s.c, .func (.func fi) #[] lb] w fun e w' => ∃ i, e = .returned (.int .i64 i) ∧ decide (0 ≤ i) = l.any q ∧ Below w.heap.size w w' := by
  have hl := h.i.len
  obtain ⟨na, nn, nc⟩ := s
  go_enter Tryz.func84, Tryz.ntmps84
  go_wp2_with fail
  go_loopw [8] (fun v wr => ∃ k : Nat, k ≤ l.length ∧ v = .int .i64 (k : Int) ∧ Below w.heap.size w wr ∧ (l.take k).any q = false) (fun v _ => l.length - (intOf v).toNat)
  case atStart => exact ⟨0, Nat.zero_le _, rfl, Below.refl _ _, rfl⟩
  case round =>
    obtain ⟨k, hk, rfl, hb, hn⟩ := hrel
    by_cases hlt : k < l.length
    · have h2 := h.later hb
      obtain ⟨b, o, e, hcs⟩ := h2.i.cell (by simp only at hl ⊢; omega)
      have ck := hcs k (by simp only at hl ⊢; omega)
      simp only at e
      subst e
      have hT : Hid ((l.take (k + 1)).any q = q (l.getD k 0)) := by
        show _ = _
        rw [List.take_add_one, List.getElem?_eq_getElem hlt, List.any_append, hn, List.getD_eq_getElem?_getD, List.getElem?_eq_getElem hlt]; simp
      have hmem : l.getD k 0 ∈ l := by rw [List.getD_eq_getElem?_getD, List.getElem?_eq_getElem hlt]; exact List.getElem_mem _
      clear hcs h2 hn
      generalize l.getD k 0 = y at *
      have a3 : (k : Int) < (nn : Int) := by omega
      go_wp2_with fail
      refine (hq wr y hmem hb).mono ?_
      rintro e w7 ⟨rfl, b7⟩
      have B7 := bnext hb b7 (Nat.le_refl _)
      cases hc : q y with
      | true =>
        go_wp2_with fail
        go_returns
        refine ⟨_, rfl, ?_, B7⟩
        rw [take_any (k := k + 1) (by rw [hT.out, hc])]; simp
      | false =>
        go_wp2_with fail
        go_roundw
        case rel => exact ⟨k + 1, by omega, by go_num, B7, by rw [hT.out, hc]⟩
        case measure => simp [intOf]; omega
    · have hk' : k = l.length := by omega
      subst hk'
      rw [List.take_length] at hn
      have hn' : Hid (l.any q = false) := hn
      clear hn
      go_wp2_with fail
      go_returns
      exact ⟨_, rfl, by rw [hn'.out]; simp, hb⟩
set_option maxRecDepth 100000 in
set_option maxHeartbeats 2000000 in
theorem containsFunc_any {w : World} {s : Sv} {l : List Int} (h : InsS w s l) (hm : l.length ≤ 1000000) (fi : FuncId) (lb : Array Value) (q : Int → Bool) (hq : TellsN w fi lb l q) (eg : ∀ args w, (callFunc fi args).run Tryz.prog w = .ok (.enter fi args) w) :
    Calls Tryz.prog 64 #[.slice s.a s.n s.c, .func (.func fi) #[] lb] w fun e w' => e = .returned (.bool (l.any q)) ∧ Below w.heap.size w w' := by
  have hI := indexFunc_any h hm fi lb q hq eg
  go_enter Tryz.func64, Tryz.ntmps64
  go_wp2_with (first | (go_at_call 84; refine hI.mono ?_; rintro e w7 ⟨i, rfl, ei, b7⟩; have ei' : Hid (decide (0 ≤ i) = l.any q) := ei; clear ei))
  go_returns
  exact ⟨ret_bool (by rw [← ei'.out]), b7⟩
end Go.Proofs.YtdfifneikmlmoaaGreat
