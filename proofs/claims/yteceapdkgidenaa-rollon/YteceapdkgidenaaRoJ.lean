/-
  Parts of slices of patches: no statement is proved here.
-/
import Derived.Test.YteceapdkgidenaaRoI
namespace Go.Proofs.Yteceapdkgidenaa
open Go.ChangeShapes Go.WideShapes Go.ChangeAt Go.RowKit
set_option linter.unusedVariables false
set_option linter.unusedSimpArgs false

/-- Where 'l[:k]' and 'l[k:]' begin. -/
def hdA (a : Option Addr) (c : Nat) : Option Addr := if c = 0 then a else a.map (·.add 0)
def tlA (a : Option Addr) (c k : Nat) : Option Addr := if c = k then a else a.map (·.add (k * 9))
theorem sizeP (w : World) : (sizeOf 27).run Try.prog w = .ok 9 w := by kernel_rfl
theorem elemP : Try.prog.elem 39 = 27 := by kernel_rfl
theorem undP : Try.prog.underlying 39 = some (.slice (Try.prog.elem 39)) := by rw [elemP]; exact elP.und
theorem run_hdP (a : Option Addr) (n c k : Nat) (h : k ≤ c) (w : World) : (Instr.sliceAt 39 (.slice a n c) none (some (.int .i64 (k : Int))) none).run Try.prog w = .ok (.slice (hdA a c) k c) w := by
  rw [run_sliceAt_slice (h := undP), run_slice_h (ht := undP) (h0 := by omega) (h2 := by omega), elemP, sizeP]
  simp only [Result.andThen, sliced, Int.toNat_natCast]
  unfold hdA
  rw [Nat.zero_mul, Nat.sub_zero, Nat.sub_zero]
theorem run_tlP (a : Option Addr) (n c k : Nat) (h : k ≤ n) (w : World) : (Instr.sliceAt 39 (.slice a n c) (some (.int .i64 (k : Int))) none none).run Try.prog w = .ok (.slice (tlA a c k) (n - k) (c - k)) w := by
  rw [run_sliceAt_slice (h := undP), run_slice_l (ht := undP) (h0 := by omega) (h1 := by omega), elemP, sizeP]
  simp only [Result.andThen, sliced, Int.toNat_natCast]
  rfl
theorem Ps.hd {w : World} {E : Nat → Prop} {s : Sv} {L : List Pe} (h : Ps w E s L) (k : Nat) (hk : k ≤ s.n) : Ps w E ⟨hdA s.a s.c, k, s.c⟩ (L.take k) := by
  have hl := h.len
  have hle := h.le
  refine ⟨by simp; omega, by show k ≤ s.c; omega, h.cap, fun e => ?_, fun hn => ?_, fun t ht => h.wf t (List.mem_of_mem_take ht), fun t ht => h.ms t (List.mem_of_mem_take ht)⟩
  · unfold hdA at e
    simp only at e
    split at e
    · exact h.nil e
    · exact h.nil (by simpa using e)
  · simp only at hn
    obtain ⟨b, o, e, hb, hc⟩ := h.cell (by omega)
    refine ⟨b, o, ?_, hb, fun i t ht => hc i t ?_⟩
    · show hdA s.a s.c = _
      unfold hdA
      rw [if_neg (by omega), e, Option.map_some, Addr.add_lit, Nat.add_zero]
    · have hi := (List.getElem?_eq_some_iff.1 ht).1
      rw [List.length_take] at hi
      rwa [List.getElem?_take, if_pos (by omega)] at ht
theorem Ps.tl {w : World} {E : Nat → Prop} {s : Sv} {L : List Pe} (h : Ps w E s L) (k : Nat) (hk : k ≤ s.n) : Ps w E ⟨tlA s.a s.c k, s.n - k, s.c - k⟩ (L.drop k) := by
  have hl := h.len
  have hle := h.le
  have hcap := h.cap
  refine ⟨by simp; omega, by show s.n - k ≤ s.c - k; omega, by show s.c - k ≤ maxLen; omega, fun e => ?_, fun hn => ?_, fun t ht => h.wf t (List.mem_of_mem_drop ht), fun t ht => h.ms t (List.mem_of_mem_drop ht)⟩
  · unfold tlA at e
    simp only at e ⊢
    split at e
    · have := h.nil e; omega
    · have := h.nil (by simpa using e); omega
  · simp only at hn
    obtain ⟨b, o, e, hb, hc⟩ := h.cell (by omega)
    refine ⟨b, o + k * 9, ?_, hb, fun i t ht => ?_⟩
    · show tlA s.a s.c k = _
      unfold tlA
      rw [if_neg (by omega), e, Option.map_some, Addr.add_lit]
    · rw [List.getElem?_drop] at ht
      have := hc (k + i) t ht
      rwa [show o + (k + i) * 9 = o + k * 9 + i * 9 by omega] at this
theorem pts_take (L : List Pe) (k : Nat) : pts (L.take k) = (pts L).take k := by unfold pts; rw [List.map_take]
theorem pts_drop (L : List Pe) (k : Nat) : pts (L.drop k) = (pts L).drop k := by unfold pts; rw [List.map_drop]
theorem pts_len (L : List Pe) : (pts L).length = L.length := by unfold pts; simp
end Go.Proofs.Yteceapdkgidenaa
