/-
  Plain words of my own for layer 8's statements on disks: no statement is proved here.
-/
import Derived.Test.YtjbgcbokffaemaaSupP
namespace Go.Proofs.Ytjbgcbokffaemaa
open Go.ChangeShapes Go.WideShapes Go.ChangeAt Go.RowKit
set_option linter.unusedVariables false

theorem few_own (a : Option Addr) (n c : Nat) (l : List Blk) (w : World) (h : Bls w a n c l) (hn : n ≤ 60) :
    Calls Try.prog 14 #[.slice a n c] w fun e w' => ∃ g cap, e = .returned (.slice (some ⟨g, 0, none⟩) n cap) ∧ Wd w' g n cap l ∧ w.heap.size ≤ g ∧ Below w.heap.size w w' := by
  have := few_any a n c l w h
  rw [List.take_of_length_le (by rw [h.len]; exact hn), h.len] at this
  exact this
theorem mdF_key {l : List Blk} {k : Int} {y : Blk} (h : mdF l k = some y) : k = 0 ∨ k = 1 := by
  unfold mdF at h
  split at h
  · split at h
    · left; assumption
    · split at h
      · right; assumption
      · cases h
  · cases h
theorem mdL_at (l : List Blk) (k : Nat) (hk : k < (mdL l).length) : mdF l ((((mdL l).getD k (0, Blk.zero)).1 : Nat) : Int) = some ((mdL l).getD k (0, Blk.zero)).2 ∧ ((mdL l).getD k (0, Blk.zero)).1 < 10 := by
  have e := mdL_in l k ((mdL l).getD k (0, Blk.zero)) (by rw [List.getD_eq_getElem?_getD, List.getElem?_eq_getElem hk]; rfl)
  refine ⟨e, ?_⟩
  rcases mdF_key e with h | h <;> omega
theorem chc_at {w : World} {g o : Nat} {x : Nat × Blk} (h : w.rangeAt g o (chc x)) : w.cell? ⟨g, o, none⟩ = some (.int .i64 (x.1 : Int)) ∧ w.rangeAt g (o + 1) x.2.cs := by
  refine ⟨?_, fun j v hv => ?_⟩
  · have := h 0 (.int .i64 (x.1 : Int)) rfl; simpa using this
  · have := h (j + 1) v (by unfold chc; simpa using hv)
    rw [show o + 1 + j = o + (j + 1) by omega]; exact this
/-- The disk with what must be written of its first k sectors, written. -/
def mK (l : List Blk) : Nat → List Blk
  | 0 => l
  | k + 1 => (mK l k).set k ((mdF l (k : Int)).getD (l.getD k Blk.zero))
theorem mK_len (l : List Blk) : ∀ k, (mK l k).length = l.length
  | 0 => rfl
  | k + 1 => by unfold mK; rw [List.length_set]; exact mK_len l k
theorem mK_get (l : List Blk) : ∀ k j, k ≤ j → (mK l k).getD j Blk.zero = l.getD j Blk.zero
  | 0, j, _ => rfl
  | k + 1, j, h => by
    unfold mK
    rw [List.getD_eq_getElem?_getD, List.getElem?_set_ne (by omega), ← List.getD_eq_getElem?_getD]
    exact mK_get l k j (by omega)
theorem mK_two (l : List Blk) : mK l 2 = mended l := rfl
theorem mK_none {l : List Blk} {k : Nat} (h : mdF l (k : Int) = none) : mK l (k + 1) = mK l k := by
  show (mK l k).set k _ = _
  rw [h]
  show (mK l k).set k (l.getD k Blk.zero) = _
  rw [← mK_get l k k (Nat.le_refl _)]
  by_cases hk : k < (mK l k).length
  · rw [List.getD_eq_getElem?_getD, List.getElem?_eq_getElem hk]
    simp
  · rw [List.set_eq_of_length_le (by omega)]
theorem mK_some {l : List Blk} {k : Nat} {y : Blk} (h : mdF l (k : Int) = some y) : mK l (k + 1) = (mK l k).set k y := by
  show (mK l k).set k _ = _
  rw [h]; rfl
theorem mK_self (l : List Blk) (k : Nat) (hk : k < l.length) : (mK l (k + 1)).getD k Blk.zero = (mdF l (k : Int)).getD (l.getD k Blk.zero) := by
  unfold mK
  rw [List.getD_eq_getElem?_getD, List.getElem?_set_self (by rw [mK_len]; exact hk)]; rfl
/-- Behind it a sector is right, with the load of what was found. -/
theorem mK_right {l : List Blk} (h : fdE l = 0) (k : Nat) (hk : k < 2) : gE 1 ((mdF l (k : Int)).getD (l.getD k Blk.zero)) = 0 ∧ gP 1 ((mdF l (k : Int)).getD (l.getD k Blk.zero)) = mdP l := by
  obtain ⟨⟨a1, a2⟩, b1, b2⟩ := md_own h
  have hp : mdP l = ldP (fdG l) := if_pos (fd_ok h).2.1
  have : k = 0 ∨ k = 1 := by omega
  rcases this with rfl | rfl
  · have e : (mdF l ((0 : Nat) : Int)).getD (l.getD 0 Blk.zero) = (mdF l 0).getD (s0 l) := rfl
    rw [e, hp]; exact ⟨gE_one.2 a1, by rw [gP_one a1]; exact a2⟩
  · have e : (mdF l ((1 : Nat) : Int)).getD (l.getD 1 Blk.zero) = (mdF l 1).getD (s1 l) := rfl
    rw [e, hp]; exact ⟨gE_one.2 b1, by rw [gP_one b1]; exact b2⟩
/-- A disk of which one of both sectors was formatted. -/
theorem fd_has {l : List Blk} {s : Gm} (hs : s.ok) (hn : s.total = (l.length : Int)) (h : s0 l = fB s ∨ s1 l = fB s) : fdE l = 0 := by
  have h9 := total_pos hs
  obtain ⟨e1, e2⟩ := fB_own hs
  have hy := has_own hs e1 e2 hn
  unfold fdE c0 c1
  rcases h with h | h
  · rw [h, hy, show decide (2 ≤ l.length) = true from by simp; omega]; rfl
  · rw [h, hy, show decide (2 ≤ l.length) = true from by simp; omega]; simp
theorem fd_one0 {l l' : List Blk} {s : Gm} (hs : s.ok) (hn : s.total = (l.length : Int)) (hl : l'.length = l.length) (h0 : s0 l = fB s) (h1 : s1 l' = s1 l) (he : fdE l' = 22) : fdG l = s := by
  obtain ⟨e1, e2⟩ := fB_own hs
  have h9 := total_pos hs
  have hy := has_own hs e1 e2 hn
  unfold fdG c0
  rw [h0, hy, show decide (2 ≤ l.length) = true from by simp; omega]
  exact (si_own hs e1 e2).2
theorem fd_one1 {l l' : List Blk} {s : Gm} (hs : s.ok) (hn : s.total = (l.length : Int)) (hl : l'.length = l.length) (h0 : s1 l = fB s) (h1 : s0 l' = s0 l) (he : fdE l' = 22) : fdG l = s := by
  obtain ⟨e1, e2⟩ := fB_own hs
  have h9 := total_pos hs
  have hy := has_own hs e1 e2 hn
  have hd : decide (2 ≤ l.length) = true := by simp; omega
  have hz : hasB (s0 l) l.length = false := by
    unfold fdE c0 at he
    rw [hl, h1, hd] at he
    cases hh : hasB (s0 l) l.length
    · rfl
    · rw [hh] at he; simp at he
  unfold fdG c0 c1
  rw [h0, hy, hz, hd]
  exact (si_own hs e1 e2).2
theorem fd_len {l : List Blk} (h : fdE l = 0) : 2 ≤ l.length := (fd_ok h).1
end Go.Proofs.Ytjbgcbokffaemaa
