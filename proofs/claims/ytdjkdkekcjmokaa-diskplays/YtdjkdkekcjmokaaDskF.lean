/-
  What Flush and Crash of a disk of layer 4 do: no statement is proved here.
-/
import Derived.Test.YtdjkdkekcjmokaaDskE
namespace Go.Proofs.Ytdjkdkekcjmokaa
open Go.ChangeShapes Go.WideShapes Go.ChangeAt Go.RowKit
set_option linter.unusedVariables false

section
variable {ops : Array Oper} {rest : List Oper} {o : Oper} {a : Act} {w : World} {Q : Exit → Act → World → Prop}
theorem at_nextS {b r : Nat} {f : Int → Option Value} {left : Int → Bool} {cnt : Nat} (hw : Region.wanted o (yielded ops a.tmps) = true) (x : Operand) (ho : o.op = Op.next x false)
    (hx : a.eval x = .pointer (some ⟨r, 0, none⟩)) (h : RgI Try.prog 3 w b r f left cnt) (hsh : ∀ k v, f k = some v → ∃ a n c, v = .slice a n c)
    (h0 : (∀ k, left k = false) → wpList Try.prog ops Q rest (a.put o.dst (.tuple #[.bool false])) w)
    (h1 : ∀ k va vn vc w' cnt', (Lit.int .i64 k).wf = true → left k = true → f k = some (.slice va vn vc) → RgI Try.prog 3 w' b r f (fun x => left x && !decide (x = k)) cnt' → cnt' < cnt → Stp (fun x => x = r) w w' → w'.heap.size = w.heap.size →
      (Instr.entry (.pointer (some ⟨r, 0, none⟩))).run Try.prog w' = .ok (.tuple #[.int .i64 k, .slice va vn vc]) w' → wpList Try.prog ops Q rest (a.put o.dst (.tuple #[.bool true, .int .i64 k, .slice va vn vc])) w') : wpList Try.prog ops Q (o :: rest) a w :=
  at_next' hw x ho hx h h0 (fun k v w' cnt' a1 a2 a3 a4 a5 a6 a7 a8 => by
    obtain ⟨va, vn, vc, rfl⟩ := hsh k v a3
    exact h1 k va vn vc w' cnt' a1 a2 a3 a4 a5 a6 a7 a8)
end
theorem mp_range {w : World} {b : Nat} {f : Int → Option Value} {t E : TypeId} (h : MpI Try.prog 3 w b f) (ht : Try.prog.underlying t = some (.map 3 E)) :
    ∃ w', (Instr.range t (.map (some b))).run Try.prog w = .ok (.pointer (some ⟨w.heap.size, 0, none⟩)) w' ∧ ∃ cnt, RgI Try.prog 3 w' b w.heap.size f (fun k => (f k).isSome) cnt ∧ Stp (fun _ => False) w w' ∧ w'.heap.size = w.heap.size + 1 := by
  obtain ⟨w', cnt, h1, h2, h3, h4⟩ := h.range u3 ht
  exact ⟨w', h1, cnt, h2, Stp.of_grown h3 (by rintro x e; cases e), h4⟩
/-- The disk part way: where 'left' still, as it was; else h is stable and nothing waits. -/
def DS.part (S : DS) (h : Int → Blk) (left : Int → Bool) : DS := { S with st := fun k => if left k then S.st k else h k, wt := fun k => if left k then S.wt k else [] }
theorem part_start {S : DS} {h : Int → Blk} {left : Int → Bool} (h1 : ∀ k, left k = false → S.wt k = []) (h2 : ∀ k, S.wt k = [] → h k = S.st k) : S.part h left = S := by
  cases S with
  | mk n st wt wr =>
    simp only [DS.part, DS.mk.injEq, true_and, and_true]
    refine ⟨?_, ?_⟩ <;> funext k <;> cases e : left k
    · simp; exact h2 k (h1 k e)
    · simp
    · simp; exact h1 k e
    · simp
theorem part_settle (S : DS) (h : Int → Blk) (left : Int → Bool) (k : Int) : (S.part h left).settle k (h k) = S.part h (fun x => left x && !decide (x = k)) := by
  simp only [DS.part, DS.settle, DS.mk.injEq, true_and, and_true]
  refine ⟨?_, ?_⟩ <;> funext x <;> by_cases e : x = k <;> simp [e]
theorem part_end (S : DS) (h : Int → Blk) {left : Int → Bool} (hl : ∀ k, left k = false) : S.part h left = { S with st := h, wt := fun _ => [] } := by
  simp [DS.part, hl]
/-- What stands at the head of a round of a range over what waits. -/
structure Lp (w wr : World) (g : Nat) (sp : Value) (m1 m2 r : Nat) (S : DS) (h : Int → Blk) (F : Nat → Prop) (f : Int → Option Value) (left : Int → Bool) (cnt : Nat) : Prop where
  d : Dk wr g sp m1 m2 (S.part h left) f F
  rg : RgI Try.prog 3 wr m2 r f left cnt
  step : Stp F w wr
theorem Lp.shape {w wr : World} {g : Nat} {sp : Value} {m1 m2 r : Nat} {S : DS} {h : Int → Blk} {F : Nat → Prop} {f : Int → Option Value} {left : Int → Bool} {cnt : Nat} (L : Lp w wr g sp m1 m2 r S h F f left cnt) :
    ∀ k v, f k = some v → ∃ a n c, v = .slice a n c := fun k v e => by
  by_cases e1 : (S.part h left).wt k = []
  · rw [L.d.w0 k e1] at e; cases e
  · obtain ⟨r, c, e2, _⟩ := L.d.w1 k e1; rw [e2] at e; injection e with e; exact ⟨_, _, _, e.symm⟩
/-- .. at a key that has come. -/
theorem Lp.come {w wr : World} {g : Nat} {sp : Value} {m1 m2 r : Nat} {S : DS} {h : Int → Blk} {F : Nat → Prop} {f : Int → Option Value} {left : Int → Bool} {cnt : Nat} (L : Lp w wr g sp m1 m2 r S h F f left cnt) (hFr : ∀ x, F x → x < r) {k : Int} {va : Option Addr} {vn vc : Nat} (hl : left k = true) (hf : f k = some (.slice va vn vc))
    {w' : World} (hs : Stp (fun x => x = r) wr w') :
    S.inn k ∧ (S.part h left).wt k = S.wt k ∧ (S.part h left).st k = S.st k ∧ vn = (S.wt k).length ∧ Dk w' g sp m1 m2 (S.part h left) f F ∧ Bls w' va vn vc (S.wt k) := by
  have e1 : (S.part h left).wt k = S.wt k := by simp [DS.part, hl]
  have e2 : (S.part h left).st k = S.st k := by simp [DS.part, hl]
  have hne : (S.part h left).wt k ≠ [] := fun e => by rw [L.d.w0 k e] at hf; cases hf
  have hd := L.d.step hs (fun x hx e => by have := hFr x hx; omega)
  obtain ⟨a, c, e3, e4⟩ := hd.waits k
  rw [hf, e1] at e3
  simp only [Option.getD_some, Value.slice.injEq] at e3
  obtain ⟨rfl, rfl, rfl⟩ := e3
  rw [e1] at e4
  exact ⟨Decidable.byContradiction fun hn => hne (L.d.ok.wt k hn), e1, e2, rfl, hd, e4⟩

theorem settle_rg {F : Nat → Prop} {w : World} {g m1 m2 r : Nat} {sp : Value} {S : DS} {f : Int → Option Value} {left : Int → Bool} {cnt : Nat} (h : Dk w g sp m1 m2 S f F) (hr : RgI Try.prog 3 w m2 r f left cnt) (hr1 : r ≠ m1) (i : Int) (hi : S.inn i) (hl : left i = false) (b : Blk) :
    Calls Try.prog 37 #[.pointer (some ⟨g, 0, none⟩), .int .i64 i, .agg b.cs.toArray] w fun e w' => e = .returned (.tuple #[]) ∧ Dk w' g sp m1 m2 (S.settle i b) (upd f i none) F ∧ (∃ cnt', cnt' ≤ cnt ∧ RgI Try.prog 3 w' m2 r (upd f i none) left cnt') ∧ Stp (fun x => x = m1 ∨ x = m2) w w' := by
  have hwf : (Lit.int .i64 i).wf = true := by have := h.ok.n2; unfold DS.inn at hi; simp [Lit.wf, IntKind.min, IntKind.max, IntKind.bits, IntKind.signed]; omega
  refine settle_core h i hi b (fun u f => ∃ cnt', cnt' ≤ cnt ∧ RgI Try.prog 3 u m2 r f left cnt') (fun x => x = r) ⟨cnt, Nat.le_refl _, hr⟩ (fun u f h => by obtain ⟨_, _, h⟩ := h; exact h.mp) (fun e => hr1 e.symm) (fun u u' f B h k hB hr => by obtain ⟨c, hc, h⟩ := h; exact ⟨c, hc, h.step k hB (hr r rfl)⟩) (fun u f ty h => ?_)
  obtain ⟨c, hc, h⟩ := h
  obtain ⟨u', c', h1, h2, h3, h4⟩ := h.drop (t := 56) u3 u64 hwf hl ty
  exact ⟨u', h1, ⟨c', by omega, h2⟩, h4⟩
/-- One round. -/
theorem Lp.next {w wr w1 w2 w3 : World} {g : Nat} {sp : Value} {m1 m2 r : Nat} {S : DS} {h : Int → Blk} {F : Nat → Prop} {f : Int → Option Value} {left : Int → Bool} {cnt cnt2 : Nat} (L : Lp w wr g sp m1 m2 r S h F f left cnt) {k : Int} (hwr : w.heap.size ≤ r)
    (s1 : Stp (fun x => x = r) wr w1) (s2 : Below w1.heap.size w1 w2) (s3 : Stp (fun x => x = m1 ∨ x = m2) w2 w3) (hd : Dk w3 g sp m1 m2 ((S.part h left).settle k (h k)) (upd f k none) F)
    (hr : RgI Try.prog 3 w3 m2 r (upd f k none) (fun x => left x && !decide (x = k)) cnt2) : Lp w w3 g sp m1 m2 r S h F (upd f k none) (fun x => left x && !decide (x = k)) cnt2 := by
  rw [part_settle] at hd
  refine ⟨hd, hr, ((L.step.next s1 (fun x hx => .inr (by omega))).trans (Stp.of_below s2 F)).next s3 (fun x hx => ?_)⟩
  rcases hx with hx | hx
  · exact .inl (hx ▸ hd.f1)
  · exact .inl (hx ▸ hd.f2)

def DS.flush (S : DS) (p : Option PS) : DS := if oErr p = 0 then { S with st := S.shown, wt := fun _ => [] } else S
theorem shown_st {S : DS} {k : Int} (h : S.wt k = []) : S.shown k = S.st k := by unfold DS.shown shownBy; rw [h]; rfl
set_option maxRecDepth 100000 in
set_option maxHeartbeats 2000000 in
theorem flush_any {w : World} {g : Nat} {sp : Value} {S : DS} {p : Option PS} {F G : Nat → Prop} (h : DD w g sp S p F G) (ok : oOk p) :
    Calls Try.prog 20 #[.pointer (some ⟨g, 0, none⟩)] w fun e w' => e = .returned (.int .i64 (oErr p)) ∧ DD w' g sp (S.flush p) (oUse p) F G ∧ Stp (fun x => F x ∨ G x) w w' := by
  obtain ⟨⟨m1, m2, f, hd, hm⟩, hs, hFG, hGl⟩ := h
  have c1 := hd.c1
  have hu := sup_use hs ok
  by_cases he : oErr p = 0
  · have eW : S.flush p = { S with st := S.shown, wt := fun _ => [] } := if_pos he
    rw [eW, he]; rw [he] at hu
    clear eW he
    go_enter Try.func20, Try.ntmps20
    go_wp2_with (first
      | (go_at_call 39; refine hu.mono ?_; rintro e w1 ⟨rfl, hk1, hs1⟩
         have hd1 := hd.step hk1 hFG
         have hm1 := hm.step hk1 (hFG m2 hd.f2)
         have c3 := hd1.c3)
      | (refine at_range' (by rfl) _ (by rfl) (by rfl) (mp_range hm1 u64) ?_; rintro w2 ⟨cnt, hrg, hk2, hz2⟩))
    go_frame
    obtain ⟨r, hr⟩ : ∃ r, r = w1.heap.size := ⟨_, rfl⟩
    rw [← hr] at hrg ⊢
    have start : Lp w1 w2 g sp m1 m2 r S S.shown F f (fun k => (f k).isSome) cnt := by
      refine ⟨?_, hrg, hk2.mono (fun x hx => hx.elim)⟩
      rw [part_start (fun k hk => ?_) (fun k hk => shown_st hk)]
      · exact hd1.step hk2 (fun _ _ => id)
      · refine Decidable.byContradiction fun hn => ?_
        obtain ⟨r', c', e, _⟩ := hd1.w1 k hn
        simp [e] at hk
    have hFr : ∀ x, F x → x < r := fun x hx => by rw [hr]; exact hd1.lt x hx
    have hFr1 : r ≠ m1 := fun e => by have := hFr m1 hd.f1; omega
    have hwr : w1.heap.size ≤ r := by omega
    have hg1 := hd.fg
    clear hd1 hm1 hrg hz2 hk2 c3 c1 hu hm hs hr
    go_loopw [4] (fun _ wr => ∃ left cnt f', Lp w1 wr g sp m1 m2 r S S.shown F f' left cnt) (fun _ wr => wr.rangeLeft m2 r)
    case atStart => exact ⟨_, _, _, start⟩
    case round =>
      clear start
      obtain ⟨left, cnt, f', L⟩ := hrel
      go_wp2_with (first
        | (refine at_nextS (by rfl) _ (by rfl) (by rfl) L.rg L.shape (fun hl => ?_) (fun k va vn vc w3 cnt3 hwf hlk hfk hrg3 hc3 hs3 hz3 hen => ?_)))
      · go_returns
        have k9 : Stp F w1 wr := L.step
        refine ⟨rfl, ⟨⟨m1, m2, f', ?_, L.rg.mp⟩, hs1.step k9 (fun x hx e => hFG x e hx), hFG, fun x hx => Nat.lt_of_lt_of_le (hGl x hx) (Nat.le_trans hk1.size k9.size)⟩, (hk1.mono (F' := fun x => F x ∨ G x) (fun x hx => .inl (.inr hx))).next k9 (fun x hx => .inl (.inl hx))⟩
        have := L.d
        rw [part_end S _ hl] at this
        exact this
      · obtain ⟨hin, e1, e2, e3, hd3, hb3⟩ := L.come hFr hlk hfk hs3
        refine (shown_any hd3 k hwf hb3).mono ?_
        rintro e w4 ⟨rfl, hb4⟩
        have e4 : shownBy (S.part S.shown left) k (S.wt k) = S.shown k := by show (S.wt k).getLastD ((S.part S.shown left).st k) = (S.wt k).getLastD (S.st k); rw [e2]
        rw [e4]
        clear e1 e2 e3 e4 hen hz3 hb3
        go_wp2_with fail
        refine (settle_rg (hd3.step (Stp.of_below hb4 (fun _ => False)) (fun _ _ => id)) (hrg3.step (Stp.of_below hb4 (fun _ => False)) id id) hFr1 k hin (by simp) (S.shown k)).mono ?_
        rintro e w5 ⟨rfl, hd5, ⟨cnt5, hc5, hrg5⟩, hs5⟩
        go_wp2_with fail
        go_roundw
        case rel => exact ⟨_, _, _, L.next hwr hs3 hb4 hs5 hd5 hrg5⟩
        case measure => rw [hrg5.left_eq, L.rg.left_eq]; omega
  · have eW : S.flush p = S := if_neg he
    rw [eW]
    go_enter Try.func20, Try.ntmps20
    go_wp2_with (first
      | (go_at_call 39; refine hu.mono ?_; rintro e w1 ⟨rfl, hk1, hs1⟩))
    go_returns
    exact ⟨rfl, ⟨⟨m1, m2, f, hd.step hk1 hFG, hm.step hk1 (hFG m2 hd.f2)⟩, hs1, hFG, fun x hx => Nat.lt_of_lt_of_le (hGl x hx) hk1.size⟩, hk1.mono (fun x hx => .inl (.inr hx))⟩
theorem flush_nil (w : World) : Calls Try.prog 20 #[.pointer none] w fun e w' => e = .returned (.int .i64 1) ∧ w = w' := by
  go_enter Try.func20, Try.ntmps20
  go_wp2
  go_returns
  exact ⟨rfl, rfl⟩
/-- A slice of numbers that reads as the list l. -/
structure Ins (w : World) (a : Option Addr) (n c : Nat) (l : List Int) : Prop where
  len : l.length = n
  le : n ≤ c
  cap : c ≤ maxLen
  wf : ∀ x ∈ l, (Lit.int .i64 x).wf = true
  cell : 0 < n → ∃ b o, a = some ⟨b, o, none⟩ ∧ ∀ i, i < n → w.cell? ⟨b, o + i, none⟩ = some (.int .i64 (l.getD i 0))
theorem Ins.nilSlice (w : World) : Ins w none 0 0 [] := ⟨rfl, Nat.le_refl _, by decide, (fun _ h => by cases h), fun h => absurd h (by omega)⟩
theorem Ins.step {F : Nat → Prop} {w w' : World} {a : Option Addr} {n c : Nat} {l : List Int} (h : Ins w a n c l) (k : Stp F w w') (hF : ∀ x : Addr, 0 < n → a = some x → ¬ F x.block) : Ins w' a n c l :=
  ⟨h.len, h.le, h.cap, h.wf, fun hn => by obtain ⟨b, o, rfl, hc⟩ := h.cell hn; exact ⟨b, o, rfl, fun i hi => k.cell (hc i hi) (hF ⟨b, o, none⟩ hn rfl)⟩⟩
theorem Ins.lt {w : World} {a : Option Addr} {n c : Nat} {l : List Int} (h : Ins w a n c l) {x : Addr} (hn : 0 < n) (e : a = some x) : x.block < w.heap.size := by
  obtain ⟨b, o, e1, hc⟩ := h.cell hn
  rw [e1] at e; injection e with e; subst e
  exact World.block_lt_of_cell? w _ (hc 0 hn)
def keptN (keep : List Int) (i : Int) (n : Nat) : Nat := if i.toNat < keep.length then min (keep.getD i.toNat 0).toNat n else 0
theorem keptN_le (keep : List Int) (i : Int) (n : Nat) : keptN keep i n ≤ n := by unfold keptN; split <;> omega
theorem kept_any {w : World} {a : Option Addr} {m c : Nat} {keep : List Int} (h : Ins w a m c keep) (i : Nat) (n : Nat) (hi : i < 2048) (hn : n < 100000) :
    Calls Try.prog 40 #[.slice a m c, .int .i64 i, .int .i64 n] w fun e w' => e = .returned (.int .i64 (keptN keep i n)) ∧ w = w' := by
  have hl := h.len
  have hle := h.le
  have hcap := h.cap
  unfold maxLen at hcap
  by_cases him : i < m
  · obtain ⟨b, o, rfl, hc⟩ := h.cell (by omega)
    have hx := hc i him
    have e : keptN keep i n = min (keep.getD i 0).toNat n := by unfold keptN; rw [Int.toNat_natCast, if_pos (by omega)]
    rw [e]; clear e hc
    generalize keep.getD i 0 = x at *
    have i1 : (0 : Int) ≤ (i : Int) := by omega
    have i2 : (i : Int) < (m : Int) := by omega
    by_cases hx0 : x < 0
    · have n0 : (0 : Int) ≤ (n : Int) := by omega
      rw [show ((min x.toNat n : Nat) : Int) = 0 by omega]
      go_enter Try.func40, Try.ntmps40
      go_wp2
      go_returns
      exact ⟨rfl, rfl⟩
    · by_cases hxn : x ≤ n
      · rw [show ((min x.toNat n : Nat) : Int) = x by omega]
        go_enter Try.func40, Try.ntmps40
        go_wp2
        go_returns
        exact ⟨rfl, rfl⟩
      · have hxn' : (n : Int) < x := by omega
        rw [show ((min x.toNat n : Nat) : Int) = n by omega]
        go_enter Try.func40, Try.ntmps40
        go_wp2
        go_returns
        exact ⟨rfl, rfl⟩
  · have e : keptN keep i n = 0 := by unfold keptN; rw [Int.toNat_natCast, if_neg (by omega)]
    rw [e]; clear e
    have i2 : (m : Int) ≤ (i : Int) := by omega
    go_enter Try.func40, Try.ntmps40
    go_wp2
    go_returns
    exact ⟨rfl, rfl⟩

def DS.crashed (S : DS) (keep : List Int) (k : Int) : Blk := shownBy S k ((S.wt k).take (keptN keep k (S.wt k).length))
def DS.crash (S : DS) (keep : List Int) : DS := { S with st := S.crashed keep, wt := fun _ => [] }
theorem crash_nil (v : Value) (w : World) : Calls Try.prog 22 #[.pointer none, v] w fun e w' => e = .returned (.tuple #[]) ∧ w = w' := by
  go_enter Try.func22, Try.ntmps22
  go_wp2
  first | go_end0 | refine bodyPost_ret (results_none rfl _ _ _) rfl ?_
  exact ⟨rfl, rfl⟩
set_option maxRecDepth 100000 in
set_option maxHeartbeats 2000000 in
theorem crash_any {w : World} {g : Nat} {sp : Value} {S : DS} {F : Nat → Prop} {a : Option Addr} {n c : Nat} {keep : List Int} (h : Disk w g sp S F) (hw : ∀ k, (S.wt k).length < 100000) (hk : Ins w a n c keep) (hkF : ∀ x : Addr, 0 < n → a = some x → ¬ F x.block) :
    Calls Try.prog 22 #[.pointer (some ⟨g, 0, none⟩), .slice a n c] w fun e w' => e = .returned (.tuple #[]) ∧ Disk w' g sp (S.crash keep) F ∧ Stp F w w' := by
  obtain ⟨m1, m2, f, hd, hm⟩ := h
  have c3 := hd.c3
  go_enter Try.func22, Try.ntmps22
  go_wp2_with (first
    | (refine at_range' (by rfl) _ (by rfl) (by rfl) (mp_range hm u64) ?_; rintro w2 ⟨cnt, hrg, hk2, hz2⟩))
  go_frame
  obtain ⟨r, hr⟩ : ∃ r, r = w.heap.size := ⟨_, rfl⟩
  rw [← hr] at hrg ⊢
  have start : Lp w w2 g sp m1 m2 r S (S.crashed keep) F f (fun k => (f k).isSome) cnt := by
    refine ⟨?_, hrg, hk2.mono (fun x hx => hx.elim)⟩
    rw [part_start (fun k hk => ?_) (fun k hk => by unfold DS.crashed shownBy; rw [hk]; simp)]
    · exact hd.step hk2 (fun _ _ => id)
    · refine Decidable.byContradiction fun hn => ?_
      obtain ⟨r', c', e, _⟩ := hd.w1 k hn
      simp [e] at hk
  have hFr : ∀ x, F x → x < r := fun x hx => by rw [hr]; exact hd.lt x hx
  have hFr1 : r ≠ m1 := fun e => by have := hFr m1 hd.f1; omega
  have hwr : w.heap.size ≤ r := by omega
  have hkr : ∀ x : Addr, 0 < n → a = some x → x.block < r := fun x h0 e => by rw [hr]; exact hk.lt h0 e
  have hok := hd.ok.n2
  clear hrg hz2 hk2 c3 hm hr hd
  go_loopw [4] (fun _ wr => ∃ left cnt f', Lp w wr g sp m1 m2 r S (S.crashed keep) F f' left cnt) (fun _ wr => wr.rangeLeft m2 r)
  case atStart => exact ⟨_, _, _, start⟩
  case round =>
    clear start
    obtain ⟨left, cnt, f', L⟩ := hrel
    go_wp2_with (first
      | (refine at_nextS (by rfl) _ (by rfl) (by rfl) L.rg L.shape (fun hl => ?_) (fun k va vn vc w3 cnt3 hwf hlk hfk hrg3 hc3 hs3 hz3 hen => ?_)))
    · first | go_end0 | refine bodyPost_ret (results_none rfl _ _ _) rfl ?_
      refine ⟨rfl, ⟨m1, m2, f', ?_, L.rg.mp⟩, L.step⟩
      have := L.d
      rw [part_end S _ hl] at this
      exact this
    · obtain ⟨hin, e1, e2, e3, hd3, hb3⟩ := L.come hFr hlk hfk hs3
      have hk3 : Ins w3 a n c keep := (hk.step L.step hkF).step hs3 (fun x h0 e e' => by have := hkr x h0 e; omega)
      obtain ⟨k', rfl⟩ : ∃ k' : Nat, k = k' := ⟨k.toNat, by unfold DS.inn at hin; omega⟩
      have hvn : vn < 100000 := by rw [e3]; exact hw _
      have hk'n : k' < 2048 := by unfold DS.inn at hin; omega
      refine (kept_any hk3 k' vn hk'n hvn).mono ?_
      rintro e u ⟨rfl, rfl⟩
      have hkl := keptN_le keep k' vn
      have e5 : S.crashed keep k' = shownBy S k' ((S.wt k').take (keptN keep k' vn)) := by unfold DS.crashed; rw [e3]
      have hvc := hb3.le
      have hvm := hb3.cap
      unfold maxLen at hvm
      have hbt := hb3.take hkl
      generalize keptN keep k' vn = kn at *
      have q1 : (0 : Int) ≤ (kn : Int) := by omega
      have q2 : (kn : Int) ≤ (vc : Int) := by omega
      have q3 : kn ≤ vc := by omega
      have e4 : shownBy (S.part (S.crashed keep) left) k' ((S.wt k').take kn) = S.crashed keep k' := by rw [e5]; show List.getLastD _ ((S.part (S.crashed keep) left).st k') = _; rw [e2]; rfl
      clear e1 e2 e3 e5 hen hz3 hb3 hk3
      have E4 : Hid (shownBy (S.part (S.crashed keep) left) k' ((S.wt k').take kn) = S.crashed keep k') := e4
      clear e4
      go_wp2_with fail
      refine (shown_any hd3 k' hwf hbt).mono ?_
      rintro e w4 ⟨rfl, hb4⟩
      rw [E4.out]
      go_wp2_with fail
      refine (settle_rg (hd3.step (Stp.of_below hb4 (fun _ => False)) (fun _ _ => id)) (hrg3.step (Stp.of_below hb4 (fun _ => False)) id id) hFr1 k' hin (by simp) (S.crashed keep k')).mono ?_
      rintro e w5 ⟨rfl, hd5, ⟨cnt5, hc5, hrg5⟩, hs5⟩
      go_wp2_with fail
      go_roundw
      case rel => exact ⟨_, _, _, L.next hwr hs3 hb4 hs5 hd5 hrg5⟩
      case measure => rw [hrg5.left_eq, L.rg.left_eq]; omega
end Go.Proofs.Ytdjkdkekcjmokaa
