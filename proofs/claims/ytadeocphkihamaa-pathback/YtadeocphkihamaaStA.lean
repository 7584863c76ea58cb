/-
  Slices of texts in memory, and laws at operations on them: no statement is proved here.
-/
import Derived.Test.YtadeocphkihamaaGrC
import Derived.Test.YtadeocphkihamaaDirM
import Derived.SliceStrings
import Derived.Laws.IdiomStrings
import Derived.Deep.RegionLaw
namespace Go.Proofs.Ytadeocphkihamaa
open Go.ChangeShapes Go.WideShapes Go.ChangeAt Go.RowKit
set_option linter.unusedVariables false
set_option linter.unusedSimpArgs false

def tV (x : List UInt8) : Value := .string (str x)
/-- The slice 'a, n, c' reads as the texts l in the world w. -/
structure Sts (w : World) (a : Option Addr) (n c : Nat) (l : List (List UInt8)) : Prop where
  len : l.length = n
  le : n ≤ c
  cap : c ≤ maxLen
  nil : a = none → c = 0
  cell : 0 < n → ∃ b o, a = some ⟨b, o, none⟩ ∧ ∀ i, i < n → w.cell? ⟨b, o + i, none⟩ = some (.string (str (l.getD i [])))
section
variable {w w' : World} {a : Option Addr} {n c : Nat} {l : List (List UInt8)} {F : Nat → Prop}
theorem Sts.nilSlice (w : World) : Sts w none 0 0 [] := ⟨rfl, Nat.le_refl _, by decide, fun _ => rfl, fun h => absurd h (by omega)⟩
theorem Sts.step (h : Sts w a n c l) (k : Stp F w w') (hF : ∀ x : Addr, 0 < n → a = some x → ¬ F x.block) : Sts w' a n c l :=
  ⟨h.len, h.le, h.cap, h.nil, fun hn => by obtain ⟨b, o, rfl, hc⟩ := h.cell hn; exact ⟨b, o, rfl, fun i hi => k.cell (hc i hi) (hF ⟨b, o, none⟩ hn rfl)⟩⟩
theorem Sts.lt (h : Sts w a n c l) {x : Addr} (hn : 0 < n) (e : a = some x) : x.block < w.heap.size := by
  obtain ⟨b, o, e1, hc⟩ := h.cell hn
  rw [e1] at e; injection e with e; subst e
  exact World.block_lt_of_cell? w _ (hc 0 hn)
theorem Sts.later (h : Sts w a n c l) (k : Below w.heap.size w w') : Sts w' a n c l := h.step (Stp.of_below k (fun _ => False)) (fun _ _ _ => id)
theorem Sts.take (h : Sts w a n c l) (k : Nat) (hk : k ≤ n) : Sts w a k c (l.take k) := by
  have hl := h.len
  refine ⟨by simp; omega, Nat.le_trans hk h.le, h.cap, h.nil, fun hk0 => ?_⟩
  obtain ⟨b, o, e, hc⟩ := h.cell (by omega)
  refine ⟨b, o, e, fun i hi => ?_⟩
  rw [hc i (by omega), List.getD_eq_getElem?_getD, List.getD_eq_getElem?_getD, List.getElem?_take, if_pos hi]
theorem Sts.zero (h : Sts w a n c l) (e : a = none) : n = 0 ∧ c = 0 ∧ l = [] := by
  have h1 := h.nil e
  have h2 := h.le
  have h3 := h.len
  exact ⟨by omega, h1, List.eq_nil_of_length_eq_zero (by omega)⟩
theorem Sts.news (h : Sts w a n c l) : ∀ ad, a = some ad → ∀ j u, (l.map tV)[j]? = some u → w.cell? (ad.add j) = some u := fun ad e j u hu => by
  have hj := (List.getElem?_eq_some_iff.1 hu).1
  rw [List.length_map] at hj
  have hl := h.len
  obtain ⟨b, o, e1, hc⟩ := h.cell (by omega)
  rw [e] at e1; injection e1 with e1; subst e1
  rw [Addr.add_lit, hc j (by omega), ← hu, List.getElem?_map, List.getElem?_eq_getElem hj, List.getD_eq_getElem?_getD, List.getElem?_eq_getElem hj]; rfl
theorem tV_one (l : List (List UInt8)) : ∀ u ∈ l.map tV, u.oneCell' = true := fun u hu => by obtain ⟨x, _, rfl⟩ := List.mem_map.1 hu; rfl
end
theorem sts_open {w : World} {x : Addr} {n c : Nat} {zs : List ByteArray} (hl : n ≤ c) (hm : c ≤ maxLen) (hz : n ≤ zs.length) (hcell : ∀ i, i < zs.length → w.cell? (x.add i) = some (.string (zs.getD i ByteArray.empty))) :
    Sts w (some x) n c ((zs.take n).map (fun s => s.data.toList)) := by
  refine ⟨by simp; omega, hl, hm, (fun e => by cases e), fun hn => ?_⟩
  obtain ⟨b, o, spot⟩ := x
  have h0 := hcell 0 (by omega)
  have hspot : spot = none := by simpa [Addr.add] using World.cell?_spot h0
  subst hspot
  refine ⟨b, o, rfl, fun i hi => ?_⟩
  have := hcell i (by omega)
  rw [Addr.add_lit] at this
  rw [this, List.getD_eq_getElem?_getD, List.getD_eq_getElem?_getD, List.getElem?_map, List.getElem?_take, if_pos hi, List.getElem?_eq_getElem (by omega)]
  simp only [Option.map_some, Option.getD_some]
  rw [← str_of]
section
variable {H : Type} {enc : TypeId × Value → H} {w : World} {base : Nat} {spare : Nat → Bool} {held : Bool}
theorem sts_of_trod {fuel : Nat} {cs : List Value} {x : DataW H × List MemPlace} (h : DataW.trod enc Try.prog w base spare held fuel 22 cs = some x) : ∃ a n c l, cs = [.slice a n c] ∧ Sts w a n c l := by
  rcases open_strings (e := 9) (by kernel_rfl) (by kernel_rfl) (by kernel_rfl) h with ⟨hcs, _⟩ | ⟨a, l, c, zs, hcs, _, hl, hm, hz, _, hcell, _⟩
  · exact ⟨_, _, _, _, hcs, Sts.nilSlice w⟩
  · exact ⟨_, _, _, _, hcs, sts_open hl hm (by rw [hz]; split <;> omega) hcell⟩
end
theorem elT : ElT 22 9 1 := ⟨by kernel_rfl, ⟨.string ByteArray.empty, 16, by kernel_rfl, rfl, by omega⟩, by omega⟩
/-- The slice v, of one's own and behind B, holds just these texts (it may be nil where there are none). -/
structure OwT (B : Nat) (w : World) (v : Value) (l : List (List UInt8)) : Prop where
  ro : w.ownsRow 0 9 1 v l.length (l.map tV)
  nw : New B v
section
variable {B : Nat} {w w' : World} {v : Value} {l : List (List UInt8)} {F : Nat → Prop}
theorem OwT.none (w : World) : OwT B w (.slice none 0 0) [] := ⟨⟨rfl, .inl ⟨rfl, rfl⟩⟩, fun r e => by cases e⟩
theorem OwT.made (w : World) (hB : B ≤ w.heap.size) : OwT B (w.alloc (.cells #[] 9)) (.slice (some ⟨w.heap.size, 0, Option.none⟩) 0 0) [] :=
  ⟨World.ownsRow_made w #[] 0 (Nat.zero_le _) (Nat.zero_le _) rfl, fun r e => by
    have : w.heap.size = r := by simpa [Value.ownBlock] using e
    omega⟩
theorem OwT.step (h : OwT B w v l) (k : Stp F w w') (hF : ∀ r, v.ownBlock = some r → ¬ F r) : OwT B w' v l := ⟨ro_step h.ro k hF, h.nw⟩
theorem OwT.later (h : OwT B w v l) (k : Below w.heap.size w w') : OwT B w' v l := ⟨ro_later h.ro k, h.nw⟩
theorem OwT.less {B' : Nat} (h : OwT B w v l) (hB : B' ≤ B) : OwT B' w v l := ⟨h.ro, fun r e => Nat.le_trans hB (h.nw r e)⟩
theorem OwT.shape (h : OwT B w v l) : ∃ a c, v = .slice a l.length c ∧ Sts w a l.length c l ∧ ∀ x : Addr, a = some x → B ≤ x.block := by
  have h0 := h.ro
  rcases h.ro.2 with ⟨rfl, h2⟩ | ⟨g, cap, cur, rfl, _, h3, h4, h5, h6, h7⟩
  · obtain rfl : l = [] := List.eq_nil_of_length_eq_zero h2
    exact ⟨Option.none, 0, rfl, Sts.nilSlice w, fun x e => by cases e⟩
  · refine ⟨_, cap, rfl, ⟨rfl, h4, h5, (fun e => by cases e), fun hn => ⟨g, 0, rfl, fun i hi => ?_⟩⟩, fun x e => by injection e with e; subst e; exact h.nw g rfl⟩
    rw [Nat.zero_add, cell_of_row w g i _ _ (0, 0) h3]
    have h1 : (cur.toList.take (l.length * 1))[i]? = (l.map tV)[i]? := by rw [h7]
    rw [Nat.mul_one, List.getElem?_take, if_pos hi, List.getElem?_map, List.getElem?_eq_getElem hi] at h1
    rw [List.getD_eq_getElem?_getD, List.getElem?_eq_getElem hi]
    simpa [tV] using h1
end
theorem build_t (x : List UInt8) (w : World) : (Instr.buildSlice 22 1 #[(0, .string (str x))]).run Try.prog w = .ok (.slice (some ⟨w.heap.size, 0, none⟩) 1 1) (w.alloc (.cells #[.string (str x)] 9)) := by kernel_rfl
theorem build_t0 (w : World) : (Instr.buildSlice 22 0 #[]).run Try.prog w = .ok (.slice (some ⟨w.heap.size, 0, none⟩) 0 0) (w.alloc (.cells #[] 9)) := by kernel_rfl
theorem sts_new (w : World) (x : List UInt8) : Sts (w.alloc (.cells #[.string (str x)] 9)) (some ⟨w.heap.size, 0, none⟩) 1 1 [x] := by
  refine ⟨rfl, Nat.le_refl _, by decide, (fun e => by cases e), fun _ => ⟨_, 0, rfl, fun i hi => ?_⟩⟩
  obtain rfl : i = 0 := by omega
  simp
section
variable {ops : Array Oper} {rest : List Oper} {o : Oper} {a : Act} {w : World} {Q : Exit → Act → World → Prop} {B : Nat} {v : Value} {l l2 : List (List UInt8)}
theorem at_bsT (hw : Region.wanted o (yielded ops a.tmps) = true) (x : Operand) (ho : o.op = .buildSlice 22 1 #[(0, x)]) (y : List UInt8) (hx : a.eval x = .string (str y))
    (h : ∀ g w', w.heap.size ≤ g → Sts w' (some ⟨g, 0, none⟩) 1 1 [y] → Below w.heap.size w w' → wpList Try.prog ops Q rest (a.put o.dst (.slice (some ⟨g, 0, none⟩) 1 1)) w') : wpList Try.prog ops Q (o :: rest) a w := by
  refine op_val hw _ _ ?_ (h w.heap.size _ (Nat.le_refl _) (sts_new w y) ((Below.refl _ _).alloc (Nat.le_refl _) _))
  simp [execOp, ho, hx, build_t]
theorem at_bs0T (hw : Region.wanted o (yielded ops a.tmps) = true) (ho : o.op = .buildSlice 22 0 #[]) (hB : B ≤ w.heap.size)
    (h : ∀ g w', OwT B w' (.slice (some ⟨g, 0, none⟩) 0 0) [] → Below w.heap.size w w' → wpList Try.prog ops Q rest (a.put o.dst (.slice (some ⟨g, 0, none⟩) 0 0)) w') : wpList Try.prog ops Q (o :: rest) a w := by
  refine op_val hw _ _ ?_ (h w.heap.size _ (OwT.made w hB) ((Below.refl _ _).alloc (Nat.le_refl _) _))
  simp [execOp, ho, build_t0]
/-- What append leaves. -/
theorem apd_T {w' : World} {v' : Value} (hA : Apd w B 9 1 v l.length l2.length (l.map tV ++ l2.map tV) v' w') (h0 : OwT B w v l) : OwT B w' v' (l ++ l2) ∧ Stp (fun x => B ≤ x) w w' := by
  obtain ⟨h1, h2, h3, h4, h5⟩ := hA
  refine ⟨⟨?_, h2⟩, h4.mono (fun x e => .inl (h0.nw x e))⟩
  rw [List.length_append, List.map_append]; exact h1
theorem at_appT (B : Nat) (hgd : o.guard = none) (s x : Operand) (ho : o.op = .call { callee := .builtin .append, args := #[s, x], argTypes := #[22, 22] }) (hs : a.eval s = v) (h0 : OwT B w v l)
    (xa : Option Addr) (m c : Nat) (hx : a.eval x = .slice xa m c) (h2 : Sts w xa m c l2) (hbig : l.length + m ≤ 1000000) (hB : B ≤ w.heap.size)
    (h : ∀ v' w', OwT B w' v' (l ++ l2) → Stp (fun x => B ≤ x) w w' → wpList Try.prog ops Q rest (a.put o.dst v') w') : wpList Try.prog ops Q (o :: rest) a w := by
  have e := h2.len
  subst e
  refine at_appR elT B hgd s x ho hs h0.ro h0.nw xa c (l2.map tV) hx (by simp) (fun e => ⟨(h2.zero e).1, (h2.zero e).2.1⟩) h2.news (tV_one l2) hbig hB ?_
  intro v' w' hA
  obtain ⟨h3, h4⟩ := apd_T hA h0
  exact h v' w' h3 h4
theorem at_appTw (B : Nat) (hw : Region.wanted o (yielded ops a.tmps) = true) (s x : Operand) (ho : o.op = .call { callee := .builtin .append, args := #[s, x], argTypes := #[22, 22] }) (hs : a.eval s = v) (h0 : OwT B w v l)
    (xa : Option Addr) (m c : Nat) (hx : a.eval x = .slice xa m c) (h2 : Sts w xa m c l2) (hbig : l.length + m ≤ 1000000) (hB : B ≤ w.heap.size)
    (h : ∀ v' w', OwT B w' v' (l ++ l2) → Stp (fun x => B ≤ x) w w' → wpList Try.prog ops Q rest (a.put o.dst v') w') : wpList Try.prog ops Q (o :: rest) a w := by
  have e := h2.len
  subst e
  obtain ⟨v', w', hr, hA⟩ := apd_run elT (B := B) o.type h0.ro h0.nw xa c (l2.map tV) (by simp) (fun e => ⟨(h2.zero e).1, (h2.zero e).2.1⟩) h2.news (tV_one l2) hbig hB
  obtain ⟨h3, h4⟩ := apd_T hA h0
  refine op_val hw v' w' ?_ (h v' w' h3 h4)
  simp only [execOp, ho, resolve, invoke, builtin, Sem.run_bind, Sem.run_pure, Result.andThen_ok, List.map_toArray, List.map_cons, List.map_nil, hs, hx, hr]
theorem step_appT {K : Act → World → Prop} {R : Prop} (B : Nat) (hgd : o.guard = none) (s x : Operand) (ho : o.op = .call { callee := .builtin .append, args := #[s, x], argTypes := #[22, 22] }) (hs : a.eval s = v) (h0 : OwT B w v l)
    (xa : Option Addr) (m c : Nat) (hx : a.eval x = .slice xa m c) (h2 : Sts w xa m c l2) (hbig : l.length + m ≤ 1000000) (hB : B ≤ w.heap.size)
    (h : ∀ v' w', OwT B w' v' (l ++ l2) → Stp (fun x => B ≤ x) w w' → K (a.put o.dst v') w') : if Region.wanted o (yielded ops a.tmps) = true then Oper.wp Try.prog o a w K Q else R := by
  have e := h2.len
  subst e
  refine step_appR elT B hgd s x ho hs h0.ro h0.nw xa c (l2.map tV) hx (by simp) (fun e => ⟨(h2.zero e).1, (h2.zero e).2.1⟩) h2.news (tV_one l2) hbig hB ?_
  intro v' w' hA
  obtain ⟨h3, h4⟩ := apd_T hA h0
  exact h v' w' h3 h4
end
end Go.Proofs.Ytadeocphkihamaa
