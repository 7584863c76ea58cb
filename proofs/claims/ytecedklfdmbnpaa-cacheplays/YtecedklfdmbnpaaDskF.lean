/-
  What Flush and Crash of a disk of layer 4 do: no statement is proved here.
-/
import Derived.Test.YtecedklfdmbnpaaDskE
namespace Go.Proofs.Ytecedklfdmbnpaa
open Go.ChangeShapes Go.WideShapes Go.ChangeAt Go.RowKit
set_option linter.unusedVariables false

section
variable {ops : Array Oper} {rest : List Oper} {o : Oper} {a : Act} {w : World} {Q : Exit → Act → World → Prop}
theorem at_nextS {b r : Nat} {f : Int → Option Value} {left : Int → Bool} {cnt : Nat} (hw : Region.wanted o (yielded ops a.tmps) = true) (x : Operand) (ho : o.op = Op.next x false)
    (hx : a.eval x = .pointer (some ⟨r, 0, none⟩)) (h : RgI Try.prog 3 w b r f left cnt) (hsh : ∀ k v, f k = some v → ∃ a n c, v = .slice a n c)
    (h0 : (∀ k, left k = false) → wpList Try.prog ops Q rest (a.put o.dst (.tuple #[.bool false])) w)
    (h1 : ∀ k va vn vc w' cnt', (Lit.int .i64 k).wf = true → left k = true → f k = some (.slice va vn vc) → RgI Try.prog 3 w' b r f (fun x => left x && !decide (x = k)) cnt' → cnt' < cnt → Stp (fun x => x = r) w w' → w'.heap.size = w.heap.size →
      (Instr.entry (.pointer (some ⟨r, 0, none⟩))).run Try.prog w' = .ok (.tuple #[.int .i64 k, .slice va vn vc]) w' → wpList Try.prog ops Q rest (a.put o.dst (.tuple #[.bool true, .int .i64 k, .slice va vn vc])) w') : wpList Try.prog ops Q (o :: rest) a w :=
  at_next' hw x ho hx h h0 (fun k v w' cnt' a1 a2 a3 a4 a5 a6 a7 a8 => by
    obtain ⟨va, vn, vc, rfl⟩ := hsh k v a3
    exact h1 k va vn vc w' cnt' a1 a2 a3 a4 a5 a6 a7 a8)
end
theorem mp_range {w : World} {b : Nat} {f : Int → Option Value} {t E : TypeId} (h : MpI Try.prog 3 w b f) (ht : Try.prog.underlying t = some (.map 3 E)) :
    ∃ w', (Instr.range t (.map (some b))).run Try.prog w = .ok (.pointer (some ⟨w.heap.size, 0, none⟩)) w' ∧ ∃ cnt, RgI Try.prog 3 w' b w.heap.size f (fun k => (f k).isSome) cnt ∧ Stp (fun _ => False) w w' ∧ w'.heap.size = w.heap.size + 1 := by
  obtain ⟨w', cnt, h1, h2, h3, h4⟩ := h.range u3 ht
  exact ⟨w', h1, cnt, h2, Stp.of_grown h3 (by rintro x e; cases e), h4⟩
/-- The disk part way: where 'left' still, as it was; else h is stable and nothing waits. -/
def DS.part (S : DS) (h : Int → Blk) (left : Int → Bool) : DS := { S with st := fun k => if left k then S.st k else h k, wt := fun k => if left k then S.wt k else [] }
theorem part_start {S : DS} {h : Int → Blk} {left : Int → Bool} (h1 : ∀ k, left k = false → S.wt k = []) (h2 : ∀ k, S.wt k = [] → h k = S.st k) : S.part h left = S := by
  cases S with
  | mk n st wt wr =>
    simp only [DS.part, DS.mk.injEq, true_and, and_true]
    refine ⟨?_, ?_⟩ <;> funext k <;> cases e : left k
    · simp; exact h2 k (h1 k e)
    · simp
    · simp; exact h1 k e
    · simp
theorem part_settle (S : DS) (h : Int → Blk) (left : Int → Bool) (k : Int) : (S.part h left).settle k (h k) = S.part h (fun x => left x && !decide (x = k)) := by
  simp only [DS.part, DS.settle, DS.mk.injEq, true_and, and_true]
  refine ⟨?_, ?_⟩ <;> funext x <;> by_cases e : x = k <;> simp [e]
theorem part_end (S : DS) (h : Int → Blk) {left : Int → Bool} (hl : ∀ k, left k = false) : S.part h left = { S with st := h, wt := fun _ => [] } := by
  simp [DS.part, hl]
/-- What stands at the head of a round of a range over what waits. -/
structure Lp (w wr : World) (g : Nat) (sp : Value) (m1 m2 r : Nat) (S : DS) (h : Int → Blk) (F : Nat → Prop) (f : Int → Option Value) (left : Int → Bool) (cnt : Nat) : Prop where
  d : Dk wr g sp m1 m2 (S.part h left) f F
  rg : RgI Try.prog 3 wr m2 r f left cnt
  step : Stp F w wr
theorem Lp.shape {w wr : World} {g : Nat} {sp : Value} {m1 m2 r : Nat} {S : DS} {h : Int → Blk} {F : Nat → Prop} {f : Int → Option Value} {left : Int → Bool} {cnt : Nat} (L : Lp w wr g sp m1 m2 r S h F f left cnt) :
    ∀ k v, f k = some v → ∃ a n c, v = .slice a n c := fun k v e => by
  by_cases e1 : (S.part h left).wt k = []
  · rw [L.d.w0 k e1] at e; cases e
  · obtain ⟨r, c, e2, _⟩ := L.d.w1 k e1; rw [e2] at e; injection e with e; exact ⟨_, _, _, e.symm⟩
/-- .. at a key that has come. -/
theorem Lp.come {w wr : World} {g : Nat} {sp : Value} {m1 m2 r : Nat} {S : DS} {h : Int → Blk} {F : Nat → Prop} {f : Int → Option Value} {left : Int → Bool} {cnt : Nat} (L : Lp w wr g sp m1 m2 r S h F f left cnt) (hFr : ∀ x, F x → x < r) {k : Int} {va : Option Addr} {vn vc : Nat} (hl : left k = true) (hf : f k = some (.slice va vn vc))
    {w' : World} (hs : Stp (fun x => x = r) wr w') :
    S.inn k ∧ (S.part h left).wt k = S.wt k ∧ (S.part h left).st k = S.st k ∧ vn = (S.wt k).length ∧ Dk w' g sp m1 m2 (S.part h left) f F ∧ Bls w' va vn vc (S.wt k) := by
  have e1 : (S.part h left).wt k = S.wt k := by simp [DS.part, hl]
  have e2 : (S.part h left).st k = S.st k := by simp [DS.part, hl]
  have hne : (S.part h left).wt k ≠ [] := fun e => by rw [L.d.w0 k e] at hf; cases hf
  have hd := L.d.step hs (fun x hx e => by have := hFr x hx; omega)
  obtain ⟨a, c, e3, e4⟩ := hd.waits k
  rw [hf, e1] at e3
  simp only [Option.getD_some, Value.slice.injEq] at e3
  obtain ⟨rfl, rfl, rfl⟩ := e3
  rw [e1] at e4
  exact ⟨Decidable.byContradiction fun hn => hne (L.d.ok.wt k hn), e1, e2, rfl, hd, e4⟩

theorem settle_rg {F : Nat → Prop} {w : World} {g m1 m2 r : Nat} {sp : Value} {S : DS} {f : Int → Option Value} {left : Int → Bool} {cnt : Nat} (h : Dk w g sp m1 m2 S f F) (hr : RgI Try.prog 3 w m2 r f left cnt) (hr1 : r ≠ m1) (i : Int) (hi : S.inn i) (hl : left i = false) (b : Blk) :
    Calls Try.prog 63 #[.pointer (some ⟨g, 0, none⟩), .int .i64 i, .agg b.cs.toArray] w fun e w' => e = .returned (.tuple #[]) ∧ Dk w' g sp m1 m2 (S.settle i b) (upd f i none) F ∧ (∃ cnt', cnt' ≤ cnt ∧ RgI Try.prog 3 w' m2 r (upd f i none) left cnt') ∧ Stp (fun x => x = m1 ∨ x = m2) w w' := by
  have hwf : (Lit.int .i64 i).wf = true := by have := h.ok.n2; unfold DS.inn at hi; simp [Lit.wf, IntKind.min, IntKind.max, IntKind.bits, IntKind.signed]; omega
  refine settle_core h i hi b (fun u f => ∃ cnt', cnt' ≤ cnt ∧ RgI Try.prog 3 u m2 r f left cnt') (fun x => x = r) ⟨cnt, Nat.le_refl _, hr⟩ (fun u f h => by obtain ⟨_, _, h⟩ := h; exact h.mp) (fun e => hr1 e.symm) (fun u u' f B h k hB hr => by obtain ⟨c, hc, h⟩ := h; exact ⟨c, hc, h.step k hB (hr r rfl)⟩) (fun u f ty h => ?_)
  obtain ⟨c, hc, h⟩ := h
  obtain ⟨u', c', h1, h2, h3, h4⟩ := h.drop (t := 70) u3 u64 hwf hl ty
  exact ⟨u', h1, ⟨c', by omega, h2⟩, h4⟩
/-- One round. -/
theorem Lp.next {w wr w1 w2 w3 : World} {g : Nat} {sp : Value} {m1 m2 r : Nat} {S : DS} {h : Int → Blk} {F : Nat → Prop} {f : Int → Option Value} {left : Int → Bool} {cnt cnt2 : Nat} (L : Lp w wr g sp m1 m2 r S h F f left cnt) {k : Int} (hwr : w.heap.size ≤ r)
    (s1 : Stp (fun x => x = r) wr w1) (s2 : Below w1.heap.size w1 w2) (s3 : Stp (fun x => x = m1 ∨ x = m2) w2 w3) (hd : Dk w3 g sp m1 m2 ((S.part h left).settle k (h k)) (upd f k none) F)
    (hr : RgI Try.prog 3 w3 m2 r (upd f k none) (fun x => left x && !decide (x = k)) cnt2) : Lp w w3 g sp m1 m2 r S h F (upd f k none) (fun x => left x && !decide (x = k)) cnt2 := by
  rw [part_settle] at hd
  refine ⟨hd, hr, ((L.step.next s1 (fun x hx => .inr (by omega))).trans (Stp.of_below s2 F)).next s3 (fun x hx => ?_)⟩
  rcases hx with hx | hx
  · exact .inl (hx ▸ hd.f1)
  · exact .inl (hx ▸ hd.f2)

def DS.flush (S : DS) (p : Option PS) : DS := if oErr p = 0 then { S with st := S.shown, wt := fun _ => [] } else S
theorem shown_st {S : DS} {k : Int} (h : S.wt k = []) : S.shown k = S.st k := by unfold DS.shown shownBy; rw [h]; rfl
/-- A slice of numbers that reads as the list l. -/
structure Ins (w : World) (a : Option Addr) (n c : Nat) (l : List Int) : Prop where
  len : l.length = n
  le : n ≤ c
  cap : c ≤ maxLen
  wf : ∀ x ∈ l, (Lit.int .i64 x).wf = true
  cell : 0 < n → ∃ b o, a = some ⟨b, o, none⟩ ∧ ∀ i, i < n → w.cell? ⟨b, o + i, none⟩ = some (.int .i64 (l.getD i 0))
theorem Ins.nilSlice (w : World) : Ins w none 0 0 [] := ⟨rfl, Nat.le_refl _, by decide, (fun _ h => by cases h), fun h => absurd h (by omega)⟩
theorem Ins.step {F : Nat → Prop} {w w' : World} {a : Option Addr} {n c : Nat} {l : List Int} (h : Ins w a n c l) (k : Stp F w w') (hF : ∀ x : Addr, 0 < n → a = some x → ¬ F x.block) : Ins w' a n c l :=
  ⟨h.len, h.le, h.cap, h.wf, fun hn => by obtain ⟨b, o, rfl, hc⟩ := h.cell hn; exact ⟨b, o, rfl, fun i hi => k.cell (hc i hi) (hF ⟨b, o, none⟩ hn rfl)⟩⟩
theorem Ins.lt {w : World} {a : Option Addr} {n c : Nat} {l : List Int} (h : Ins w a n c l) {x : Addr} (hn : 0 < n) (e : a = some x) : x.block < w.heap.size := by
  obtain ⟨b, o, e1, hc⟩ := h.cell hn
  rw [e1] at e; injection e with e; subst e
  exact World.block_lt_of_cell? w _ (hc 0 hn)
def keptN (keep : List Int) (i : Int) (n : Nat) : Nat := if i.toNat < keep.length then min (keep.getD i.toNat 0).toNat n else 0
theorem keptN_le (keep : List Int) (i : Int) (n : Nat) : keptN keep i n ≤ n := by unfold keptN; split <;> omega
def DS.crashed (S : DS) (keep : List Int) (k : Int) : Blk := shownBy S k ((S.wt k).take (keptN keep k (S.wt k).length))
def DS.crash (S : DS) (keep : List Int) : DS := { S with st := S.crashed keep, wt := fun _ => [] }
end Go.Proofs.Ytecedklfdmbnpaa
