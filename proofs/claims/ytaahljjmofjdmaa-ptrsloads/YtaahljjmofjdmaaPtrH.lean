/-
  What the document's All of layer 11 returns, for every load: no statement is proved here.
-/
import Derived.Test.YtaahljjmofjdmaaPtrG
namespace Go.Proofs.Ytaahljjmofjdmaa
open Go.ChangeShapes Go.WideShapes Go.ChangeAt Go.RowKit
set_option linter.unusedVariables false

section
variable {B : Nat} {w w' : World} {g cap : Nat} {l : List UInt16}
theorem Ow2.made (w : World) (hB : B ≤ w.heap.size) : Ow2 B (w.alloc (.cells #[] 24)) w.heap.size 0 [] := World.ownsRow_made w #[] 0 hB (Nat.zero_le _) rfl
theorem Ow2.later (h : Ow2 B w g cap l) (k : Below w.heap.size w w') : Ow2 B w' g cap l := World.ownsRow.kept h (grown_of k) (.inr (fun e => by simp [Value.ownBlock] at e))
theorem Ow2.cell (h : Ow2 B w g cap l) (i : Nat) (hi : i < l.length) : w.cell? ⟨g, i, none⟩ = some (.int .u16 ((l.getD i 0).toNat : Int)) := by
  obtain ⟨_, cur, e, ht⟩ := h.there
  rw [cell_of_row w g i _ _ (0, 0) e]
  have h1 : (cur.toList.take l.length)[i]? = (l.map c16)[i]? := by rw [ht]
  rw [List.getElem?_take, if_pos hi, List.getElem?_map, List.getElem?_eq_getElem hi] at h1
  rw [List.getD_eq_getElem?_getD, List.getElem?_eq_getElem hi]
  simpa [c16] using h1
theorem at_app2 {ops : Array Oper} {rest : List Oper} {o : Oper} {a : Act} {Q : Exit → Act → World → Prop} (hgd : o.guard = none) (s x : Operand)
    (ho : o.op = .call { callee := .builtin .append, args := #[s, x], argTypes := #[30, 30] }) (n : Nat) (hs : a.eval s = .slice (some ⟨g, 0, none⟩) n cap) (h0 : Ow2 B w g cap l) (hn : l.length = n)
    (ad : Addr) (y : UInt16) (hx : a.eval x = .slice (some ad) 1 1) (hnews : ∀ j u, ([c16 y])[j]? = some u → w.cell? (ad.add j) = some u) (hbig : l.length ≤ 1000000) (hB : B ≤ w.heap.size)
    (h : ∀ g' cap' w', Ow2 B w' g' cap' (l ++ [y]) → Stp (fun x => B ≤ x) w w' → wpList Try.prog ops Q rest (a.put o.dst (.slice (some ⟨g', 0, none⟩) (n + 1) cap')) w') : wpList Try.prog ops Q (o :: rest) a w := by
  obtain ⟨i0, hi, hz0, hz1, hz2⟩ := info_parts info16
  subst hn
  have hle : (l ++ [y]).length = l.length + 1 := by rw [List.length_append]; rfl
  refine wpList_append_own_at w hgd s x 30 ho B 24 i0 (.int .u16 0) 1 2 (by kernel_rfl) hi hz0 hz1 hz2 rfl (by decide) _ l.length (l.map c16) hs h0 ad 1 1 [c16 y] hx (by simp) hnews (by simp [c16, Value.oneCell']) (by unfold maxLen; omega) (by omega) hB ?_
  intro v' w' h1 h2 h3 h4
  obtain ⟨g', cap', rfl, _⟩ := own_some h1 (fun e => by have := (h3.1 e).1; cases this)
  refine h g' cap' w' ?_ (Stp.of_grown h2 (fun x e => .inl ?_))
  · unfold Ow2; rw [hle]; simpa using h1
  · have e' : some g = some x := e; injection e' with e'; subst e'; exact h0.there.1
end
theorem rpat_at (p : Ld) (k : Nat) (w : World) (hk : k < 27) : Calls Try.prog 8 #[.agg p.cs.toArray, .int .i64 (k : Int)] w fun e w' => e = .returned (.tuple #[.int .u16 ((pt p.l (2 * k)).toNat : Int), .int .i64 0]) ∧ Below w.heap.size w w' := by
  have h := rpat_any p k w
  have hp : isPl (k : Int) := ⟨by omega, by omega⟩
  have e1 : pG p k = pt p.l (2 * k) := by unfold pG; rw [if_pos hp, Int.toNat_natCast]
  have e2 : plE k = 0 := by unfold plE; rw [if_pos hp]
  rwa [e1, e2] at h
set_option maxRecDepth 100000 in
set_option maxHeartbeats 1000000 in
theorem rall_any (p : Ld) (w : World) : Calls Try.prog 12 #[.agg p.cs.toArray] w fun e w' => ∃ g c, e = .returned (.slice (some ⟨g, 0, none⟩) 27 c) ∧ Ow2 w.heap.size w' g c (allP p 27) ∧ Below w.heap.size w w' := by
  have hp := p.len
  go_enter Try.func12, Try.ntmps12
  go_wp2_with (first
    | (refine at_boxT (by rfl) _ (by rfl) p (by rfl) ?_; intro g1 w1 a1 r1 b1))
  have q0 := Ow2.made (B := w1.heap.size) w1 (Nat.le_refl _)
  have b0 : Below w1.heap.size w1 (w1.alloc (.cells #[] 24)) := (Below.refl _ w1).alloc (Nat.le_refl _) _
  go_loopw [3, 4] (fun ov iv wr => ∃ k g c : Nat, k ≤ 27 ∧ iv = .int .i64 k ∧ ov = .slice (some ⟨g, 0, none⟩) k c ∧ Ow2 w1.heap.size wr g c (allP p k) ∧ Below w1.heap.size w1 wr) (fun _ iv _ => 27 - (intOf iv).toNat)
  case atStart => exact ⟨0, _, _, by omega, rfl, rfl, q0, b0⟩
  case round =>
    obtain ⟨k, g, c, hk, rfl, rfl, hq, hbr⟩ := hrel
    have r2 := r1.later hbr
    by_cases hlt : k < 27
    · have hlt' : (k : Int) < 27 := by omega
      have e3 : allP p k ++ [pt p.l (2 * k)] = allP p (k + 1) := (uptoP_succ _ k).symm
      have hlen : (allP p k).length = k := uptoP_len _ _
      have H := fun w => rpat_at p k w hlt
      generalize pt p.l (2 * k) = y at *
      go_wp2_with (first
        | (refine at_getL (by rfl) _ (by rfl) g1 (by rfl) p r2.row ?_)
        | (go_at_call 8; refine (H _).mono ?_; rintro e w3 ⟨rfl, b3⟩
           have q4 := (hq.later b3).later ((Below.refl _ w3).alloc (Nat.le_refl _) (.cells #[.int .u16 (y.toNat : Int)] 24))
           have b4 : Below w3.heap.size w3 (w3.alloc (.cells #[.int .u16 (y.toNat : Int)] 24)) := (Below.refl _ w3).alloc (Nat.le_refl _) _
           have B4 := bnext (bnext hbr b3 (Nat.le_refl _)) b4 (Nat.le_refl _))
        | (at_builtin; refine at_app2 rfl _ _ rfl k rfl q4 hlen ⟨w3.heap.size, 0, none⟩ y rfl (cell_one_new _ _ _) (by omega) B4.size ?_; intro g5 c5 w5 q5 s5))
      rw [e3] at q5
      go_roundw
      case rel => exact ⟨k + 1, g5, c5, by omega, by go_num, rfl, q5, ((Stp.of_below B4 (fun x => w1.heap.size ≤ x)).next s5 (fun _ h => .inl h)).below (Nat.le_refl _) (fun _ h => h)⟩
      case measure => simp [intOf]; omega
    · obtain rfl : k = 27 := by omega
      go_wp2
      go_returns
      refine ⟨g, c, rfl, ?_, bnext b1 hbr (Nat.le_refl _)⟩
      refine ⟨hq.1, ?_⟩
      rcases hq.2 with h2 | ⟨g', c', cur, f1, f2, f3⟩
      · exact .inl h2
      · exact .inr ⟨g', c', cur, f1, Nat.le_trans b1.size f2, f3⟩
end Go.Proofs.Ytaahljjmofjdmaa
