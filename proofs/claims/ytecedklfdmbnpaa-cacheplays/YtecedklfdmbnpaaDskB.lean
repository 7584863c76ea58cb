/-
  What the small methods of a disk of layer 4 return: no statement is proved here.
-/
import Derived.Test.YtecedklfdmbnpaaDskA
import Derived.Laws.ResultCell
namespace Go.Proofs.Ytecedklfdmbnpaa
open Go.ChangeShapes Go.WideShapes Go.ChangeAt Go.RowKit
set_option linter.unusedVariables false

theorem ret1 {fn : Func} {p : Tmp} (h : fn.results = #[.cell p 42]) {tmps : Array Value} {w : World} {g o : Nat} {c : Blk} (hp : tmps.getD p undef = .pointer (some ⟨g, o, none⟩)) (hc : w.rangeAt g o c.cs) :
    (results fn tmps).run Try.prog w = .ok (.agg c.cs.toArray) w := by
  have hp' : tmps[p]?.getD undef = .pointer (some ⟨g, o, none⟩) := by simpa using hp
  simp [results, h, hp', asAddr, load36 hc]
theorem ret2 {fn : Func} {p u : Tmp} (h : fn.results = #[.cell p 42, .tmp u]) {tmps : Array Value} {w : World} {g o : Nat} {c : Blk} {v : Value} (hp : tmps.getD p undef = .pointer (some ⟨g, o, none⟩)) (hu : tmps.getD u undef = v) (hc : w.rangeAt g o c.cs) :
    (results fn tmps).run Try.prog w = .ok (.tuple #[.agg c.cs.toArray, v]) w := by
  have hp' : tmps[p]?.getD undef = .pointer (some ⟨g, o, none⟩) := by simpa using hp
  have hu' : tmps[u]?.getD undef = v := by simpa using hu
  simp [results, h, hp', hu', asAddr, load36 hc]

def checkErr (S : DS) (i : Int) : Int := if S.inn i then 0 else 2
theorem check_any {w : World} {g m1 m2 : Nat} {sp : Value} {S : DS} {f : Int → Option Value} {F : Nat → Prop} (h : Dk w g sp m1 m2 S f F) (i : Int) :
    Calls Try.prog 46 #[.pointer (some ⟨g, 0, none⟩), .int .i64 i] w fun e w' => e = .returned (.int .i64 (checkErr S i)) ∧ w = w' := by
  have c0 := h.c0
  by_cases hi : S.inn i
  · have e : checkErr S i = 0 := if_pos hi
    rw [e]; clear e
    obtain ⟨h1, h2⟩ := hi
    go_enter Try.func46, Try.ntmps46
    go_wp2
    go_returns
    exact ⟨rfl, rfl⟩
  · have e : checkErr S i = 2 := if_neg hi
    rw [e]; clear e
    unfold DS.inn at hi
    by_cases h1 : i < 0
    · clear hi
      go_enter Try.func46, Try.ntmps46
      go_wp2
      go_returns
      exact ⟨rfl, rfl⟩
    · have h2 : (S.n : Int) ≤ i := by omega
      clear hi
      go_enter Try.func46, Try.ntmps46
      go_wp2
      go_returns
      exact ⟨rfl, rfl⟩
theorem check_nil (i : Int) (w : World) :
    Calls Try.prog 46 #[.pointer none, .int .i64 i] w fun e w' => e = .returned (.int .i64 1) ∧ w = w' := by
  go_enter Try.func46, Try.ntmps46
  go_wp2
  go_returns
  exact ⟨rfl, rfl⟩

def shownBy (S : DS) (i : Int) (l : List Blk) : Blk := l.getLastD (S.st i)
theorem getLastD_getD (l : List Blk) (d : Blk) (h : 0 < l.length) : l.getLastD d = l.getD (l.length - 1) Blk.zero := by
  cases l with
  | nil => simp at h
  | cons a r => rw [List.getLastD_eq_getLast?, List.getLast?_eq_getElem?, List.getD_eq_getElem?_getD, List.getElem?_eq_getElem (by simp)]; rfl
theorem there_made (w : World) : (w.alloc (.cells Blk.zero.cs.toArray 42)).there w.heap.size 0 64 := by
  have := made_there w Blk.zero.cs.toArray 42; rw [show Blk.zero.cs.toArray.size = 64 from rfl] at this; exact this
set_option maxRecDepth 100000 in
theorem shown_any {w : World} {g m1 m2 : Nat} {sp : Value} {S : DS} {f : Int → Option Value} {F : Nat → Prop} (h : Dk w g sp m1 m2 S f F) (i : Int) (hi : (Lit.int .i64 i).wf = true) {a : Option Addr} {n c : Nat} {l : List Blk} (hl : Bls w a n c l) :
    Calls Try.prog 47 #[.pointer (some ⟨g, 0, none⟩), .int .i64 i, .slice a n c] w fun e w' => e = .returned (.agg (shownBy S i l).cs.toArray) ∧ Below w.heap.size w w' := by
  have c2 := h.c2
  have hlt := h.lt g h.fg
  have hln := hl.len
  by_cases hn : n = 0
  · subst hn
    obtain rfl : l = [] := List.eq_nil_of_length_eq_zero hln
    have e : shownBy S i [] = S.st i := rfl
    rw [e]; clear e hln
    go_enter Try.func47, Try.ntmps47
    go_wp2_with (first
      | (refine at_alloc (by rfl) (by rfl) ?_)
      | (refine at_look (f := stF S) (by rfl) _ _ (by rfl) u63 _ (zero36 _) i (by rfl) (by rfl) (h.st.step (Stp.of_alloc _ _ (fun _ => False)) id) hi ?_; rw [stF_get])
      | (refine at_store (by rfl) _ _ (by rfl) _ _ (by rfl) (S.st i) (by rfl) (there_made w) ?_; rw [setCells_made]))
    refine bodyPost_ret (ret1 Try.results47 rfl (made_range w _ _)) rfl ⟨rfl, by go_grown⟩
  · obtain ⟨b, o, rfl, hc⟩ := hl.cell (by omega)
    have hb := hc (n - 1) (by omega)
    have e : shownBy S i l = l.getD (n - 1) Blk.zero := by unfold shownBy; rw [getLastD_getD l _ (by omega), hln]
    rw [e]; clear e
    generalize l.getD (n - 1) Blk.zero = B at *
    have hn1 : ¬ (n : Int) = 0 := by omega
    have hn0 : 0 < n := by omega
    have hc1 := hl.le
    have hc2 := hl.cap
    unfold maxLen at hc2
    have q1 : IntKind.i64.wrap ((n : Int) - 1) = ((n - 1 : Nat) : Int) := by rw [IntKind.wrap_i64]; omega
    have q2 : ((n - 1 : Nat) : Int) < (n : Int) := by omega
    have q3 : (0 : Int) ≤ ((n - 1 : Nat) : Int) := by omega
    clear hc hln hl
    go_enter Try.func47, Try.ntmps47
    go_wp2_with (first
      | (refine at_alloc (by rfl) (by rfl) ?_)
      | (refine at_load (by rfl) _ (by rfl) b (o + (n - 1) * 64) (by rfl) B (World.rangeAt_alloc hb _) ?_)
      | (refine at_store (by rfl) _ _ (by rfl) _ _ (by rfl) B (by rfl) (there_made w) ?_; rw [setCells_made]))
    refine bodyPost_ret (ret1 Try.results47 rfl (made_range w _ _)) rfl ⟨rfl, by go_grown⟩
end Go.Proofs.Ytecedklfdmbnpaa
