/-
  What those of layer 14 does: no statement is proved here.
-/
import Derived.Test.YtdfifneikmlmoaaGreatGrI
namespace Go.Proofs.YtdfifneikmlmoaaGreat
open Go.ChangeShapes Go.WideShapes Go.ChangeAt Go.RowKit
set_option linter.unusedVariables false
set_option linter.unusedSimpArgs false

section
variable {ops : Array Oper} {rest : List Oper} {o : Oper} {a : Act} {w : World} {Q : Exit → Act → World → Prop}
theorem at_nextA {b r : Nat} {f : Int → Option Value} {left : Int → Bool} {cnt : Nat} (hw : Region.wanted o (yielded ops a.tmps) = true) (x : Operand) (ho : o.op = Op.next x false)
    (hx : a.eval x = .pointer (some ⟨r, 0, none⟩)) (h : RgI Tryz.prog 3 w b r f left cnt) (hsh : ∀ k v, f k = some v → ∃ (q : Pt) (d n : Sv), v = .agg (q.cs d n).toArray)
    (h0 : (∀ k, left k = false) → wpList Tryz.prog ops Q rest (a.put o.dst (.tuple #[.bool false])) w)
    (h1 : ∀ k q d n w' cnt', (Lit.int .i64 k).wf = true → left k = true → f k = some (.agg (Pt.cs q d n).toArray) → RgI Tryz.prog 3 w' b r f (fun x => left x && !decide (x = k)) cnt' → cnt' < cnt → Stp (fun x => x = r) w w' → w'.heap.size = w.heap.size →
      (Instr.entry (.pointer (some ⟨r, 0, none⟩))).run Tryz.prog w' = .ok (.tuple #[.int .i64 k, .agg (Pt.cs q d n).toArray]) w' → wpList Tryz.prog ops Q rest (a.put o.dst (.tuple #[.bool true, .int .i64 k, .agg (Pt.cs q d n).toArray])) w') : wpList Tryz.prog ops Q (o :: rest) a w :=
  at_next' hw x ho hx h h0 (fun k v w' cnt' a1 a2 a3 a4 a5 a6 a7 a8 => by
    obtain ⟨q, d, n, rfl⟩ := hsh k v a3
    exact h1 k q d n w' cnt' a1 a2 a3 a4 a5 a6 a7 a8)
end
theorem rising_one : ∀ {a b : List Int}, a.Pairwise (· < ·) → b.Pairwise (· < ·) → (∀ x, x ∈ a ↔ x ∈ b) → a = b
  | [], [], _, _, _ => rfl
  | [], y :: s, _, _, h => absurd ((h y).2 (by simp)) (by simp)
  | x :: r, [], _, _, h => absurd ((h x).1 (by simp)) (by simp)
  | x :: r, y :: s, ha, hb, h => by
    rw [List.pairwise_cons] at ha hb
    have e : x = y := by
      rcases List.mem_cons.1 ((h x).1 (by simp)) with e | e
      · exact e
      · rcases List.mem_cons.1 ((h y).2 (by simp)) with e2 | e2
        · exact e2.symm
        · have := hb.1 x e; have := ha.1 y e2; omega
    subst e
    congr 1
    refine rising_one ha.2 hb.2 fun z => ⟨fun hz => ?_, fun hz => ?_⟩
    · rcases List.mem_cons.1 ((h z).1 (List.mem_cons_of_mem _ hz)) with e | e
      · have := ha.1 z hz; omega
      · exact e
    · rcases List.mem_cons.1 ((h z).2 (List.mem_cons_of_mem _ hz)) with e | e
      · have := hb.1 z hz; omega
      · exact e
theorem nodup_le : ∀ (L K : List Int), L.Nodup → (∀ x ∈ L, x ∈ K) → L.length ≤ K.length
  | [], _, _, _ => Nat.zero_le _
  | a :: t, K, hn, h => by
    rw [List.nodup_cons] at hn
    have ha : a ∈ K := h a (by simp)
    have := nodup_le t (K.erase a) hn.2 (fun x hx => (List.mem_erase_of_ne (fun e : x = a => hn.1 (by rw [← e]; exact hx))).2 (h x (List.mem_cons_of_mem _ hx)))
    rw [List.length_erase_of_mem ha] at this
    have := List.length_pos_of_mem ha
    simp only [List.length_cons]; omega
/-- The patches that q tells. -/
def thP (l : List Pt) (q : Pt → Bool) : List Pt := l.filter q
def prI (l : List Pt) (q : Pt → Bool) (x : Int) : Bool := match fnd l x with | some p => q p | none => false
theorem thP_mem {l : List Pt} (hs : l.Pairwise fun a b => a.id < b.id) {q : Pt → Bool} {x : Int} : x ∈ ids (thP l q) ↔ prI l q x = true := by
  unfold ids thP prI
  simp only [List.mem_map, List.mem_filter]
  constructor
  · rintro ⟨p, ⟨h1, h2⟩, rfl⟩; rw [fnd_of hs h1]; exact h2
  · intro h
    cases hf : fnd l x with
    | none => rw [hf] at h; cases h
    | some p => rw [hf] at h; have := fnd_mem hf; exact ⟨p, ⟨this.1, h⟩, this.2⟩
theorem ids_rise {l : List Pt} (hs : l.Pairwise fun a b => a.id < b.id) (q : Pt → Bool) : (ids (thP l q)).Pairwise (· < ·) := by
  unfold ids thP; rw [List.pairwise_map]; exact hs.filter _
/-- Part way: the numbers that came, of those that q tells. -/
structure ThI (w : World) (mp r : Nat) (l : List Pt) (q : Pt → Bool) (f : Int → Option Value) (v : Value) (wr : World) (left : Int → Bool) (cnt : Nat) (L : List Int) : Prop where
  rg : RgI Tryz.prog 3 wr mp r f left cnt
  ow : OwV wr v L
  nw : New (r + 1) v
  lt : r < wr.heap.size
  b : Below w.heap.size w wr
  nd : L.Nodup
  few : L.length ≤ l.length
  mem : ∀ x, x ∈ L ↔ ((f x).isSome = true ∧ left x = false ∧ prI l q x = true)
/-- A function value that tells of a patch. -/
def Tells (w : World) (F E : Nat → Prop) (fi : FuncId) (lb : Array Value) (q : Pt → Bool) : Prop :=
  ∀ (u : World) (p : Pt) (d n : Sv), Stp F w u → PtM u E p d n → Calls Tryz.prog fi (#[.agg (p.cs d n).toArray] ++ lb) u fun e u' => e = .returned (.bool (q p)) ∧ Below u.heap.size u u'
set_option maxRecDepth 100000 in
set_option maxHeartbeats 4000000 in
theorem those_any {w : World} {g mp mw : Nat} {f fw : Int → Option Value} {Z : GZ} {E F : Nat → Prop} (H : Gr w g mp mw f fw Z E F) (fi : FuncId) (lb : Array Value) (q : Pt → Bool) (hq : Tells w F E fi lb q) (eg : ∀ args w, (callFunc fi args).run Tryz.prog w = .ok (.enter fi args) w) :
    Calls Tryz.prog 38 #[.pointer (some ⟨g, 0, none⟩), .func (.func fi) #[] lb] w fun e w' => ∃ v, e = .returned v ∧ OwV w' v (ids (thP Z.l q)) ∧ New w.heap.size v ∧ Below w.heap.size w w' := by
  obtain ⟨z0, z1, z2⟩ := H.cells
  have hsh : ∀ k v, f k = some v → ∃ (q : Pt) (d n : Sv), v = .agg (q.cs d n).toArray := fun k v hv => by
    cases hl : fnd Z.l k with
    | none => rw [H.pn k hl] at hv; cases hv
    | some q =>
      obtain ⟨d, n, h1, _⟩ := H.ps k q hl
      rw [h1] at hv; injection hv with hv; exact ⟨q, d, n, hv.symm⟩
  have hfk : ∀ x, prI Z.l q x = true → (f x).isSome = true := fun x hx => by
    unfold prI at hx
    cases hl : fnd Z.l x with
    | none => rw [hl] at hx; cases hx
    | some p =>
      obtain ⟨d, n, h1, _⟩ := H.ps x p hl
      rw [h1]; rfl
  have hfew := H.ok.few
  have tok : True := trivial
  go_enter Tryz.func38, Tryz.ntmps38
  go_wp2_with (first
    | (clear tok; refine at_range' (by rfl) _ (by rfl) (by rfl) (mp_range H.pm uPm) ?_; rintro w2 ⟨cnt, hrg, hk2, hz2⟩))
  go_frame
  obtain ⟨r, hr⟩ : ∃ r, r = w.heap.size := ⟨_, rfl⟩
  rw [← hr] at hrg ⊢
  have start : ThI w mp r Z.l q f (.slice none 0 0) w2 (fun k => (f k).isSome) cnt [] :=
    ⟨hrg, OwV.nil w2, (fun x hx => by cases hx), by omega, hk2.below (Nat.le_refl _) (fun _ e => e.elim), List.nodup_nil, Nat.zero_le _, fun x => ⟨fun h => (by cases h), fun ⟨h1, h2, _⟩ => by rw [h1] at h2; cases h2⟩⟩
  have hwr : w.heap.size ≤ r := by omega
  clear hrg hz2 hk2 hr z0 z1 z2
  go_loopw [5] (fun v wr => ∃ left cnt L, ThI w mp r Z.l q f v wr left cnt L) (fun _ wr => wr.rangeLeft mp r)
  case atStart => exact ⟨_, _, _, start⟩
  case round =>
    clear start
    obtain ⟨left, cnt, L, I⟩ := hrel
    have come : ∀ k p d n w3, f k = some (.agg (Pt.cs p d n).toArray) → Stp (fun x => x = r) wr w3 → ∃ p' : Pt, ∃ d' n' : Sv, Pt.cs p d n = Pt.cs p' d' n' ∧ fnd Z.l k = some p' ∧ PtM w3 E p' d' n' ∧ Below w.heap.size w w3 := fun k p d n w3 hf hs3 => by
      have B3 : Below w.heap.size w w3 := ((Stp.of_below I.b (fun _ => False)).next hs3 (fun x e => .inr (by omega))).below (Nat.le_refl _) (fun x e => e.elim)
      cases hl : fnd Z.l k with
      | none => rw [H.pn k hl] at hf; cases hf
      | some p' =>
        obtain ⟨d', n', h1, h2⟩ := (H.later B3).ps k p' hl
        rw [h1] at hf; injection hf with hf; injection hf with hf
        exact ⟨p', d', n', by have := congrArg Array.toList hf; simpa using this.symm, rfl, h2, B3⟩
    have t1 : True := trivial
    have t2 : True := trivial
    have t3 : True := trivial
    have t4 : True := trivial
    go_wp2_with (first
      | (clear t1; refine at_nextA (by rfl) _ (by rfl) (by rfl) I.rg hsh (fun hl => ?_) (fun k p d n w3 cnt3 hwf hlk hfk3 hrg3 hc3 hs3 hz3 hen => ?_)
         rotate_left
         have hzz : Hid (w3.heap.size = wr.heap.size) := hz3
         obtain ⟨p', d', n', ep, hp, m3, B3⟩ := come k p d n w3 hfk3 hs3
         rw [ep] at hen hfk3 ⊢
         clear ep p d n hz3)
      | (clear t2; refine at_newP (by rfl) (by rfl) ?_; intro g5 w5 a5 a6 r5 b5)
      | (clear t3; refine at_putP (by rfl) _ _ (by rfl) g5 (by rfl) p' d' n' (by rfl) _ r5 rfl ?_; intro w6 r6 s6)
      | (clear t4; refine at_getP0 (by rfl) _ (by rfl) g5 (by rfl) p' d' n' r6 ?_))
    · have B6 : Below w3.heap.size w3 w6 := ((Stp.of_below b5 (fun _ => False)).next s6 (fun x e => .inr (by omega))).below (Nat.le_refl _) (fun x e => e.elim)
      refine (hq w6 p' d' n' (Stp.of_below (bnext B3 B6 (Nat.le_refl _)) F) (m3.later B6)).mono ?_
      rintro e w7 ⟨rfl, b7⟩
      have B7 := bnext B6 b7 (Nat.le_refl _)
      have B70 := bnext B3 B7 (Nat.le_refl _)
      have hrg7 := hrg3.step (Stp.of_below B7 (fun _ => False)) id id
      have o7 : OwV w7 u5 L := (I.ow.step hs3 (fun x hx e => by have := I.nw x hx; omega)).later B7
      have hlt7 : r < w7.heap.size := by have := B7.size; have := hzz.out; have := I.lt; omega
      have hpk : prI Z.l q k = q p' := by unfold prI; rw [hp]
      have hmem := fnd_mem hp
      clear b5 s6 r6 m3 b7 B6 r5 hen hrg3 hfk3
      cases hc : q p' with
      | false =>
        go_wp2_with fail
        go_roundw
        case rel =>
          refine ⟨_, _, L, hrg7, o7, I.nw, hlt7, B70, I.nd, I.few, fun x => ?_⟩
          rw [I.mem]
          constructor
          · rintro ⟨a1, a2, a3⟩; exact ⟨a1, by simp [a2], a3⟩
          · rintro ⟨a1, a2, a3⟩
            refine ⟨a1, ?_, a3⟩
            by_cases e : x = k
            · subst e; rw [hpk, hc] at a3; cases a3
            · simpa [e] using a2
        case measure => rw [hrg7.left_eq, I.rg.left_eq]; omega
      | true =>
        have b8 : Below w7.heap.size w7 (w7.alloc (.cells #[.int .i64 k] 3)) := (Below.refl _ w7).alloc (Nat.le_refl _) _
        have hkL : k ∉ L := fun h => by have := ((I.mem k).1 h).2.1; rw [hlk] at this; cases this
        have hnd : (L ++ [k]).Nodup := by
          rw [List.nodup_append]
          exact ⟨I.nd, by simp, fun a ha b hb e => hkL (by rw [List.mem_singleton] at hb; rw [← hb, ← e]; exact ha)⟩
        have hfewL : (L ++ [k]).length ≤ Z.l.length := by
          have := nodup_le (L ++ [k]) (ids Z.l) hnd (fun x hx => by
            rcases List.mem_append.1 hx with hx | hx
            · have h3 := ((I.mem x).1 hx).2.2
              unfold prI at h3
              cases hf : fnd Z.l x with
              | none => rw [hf] at h3; cases h3
              | some p => have := fnd_mem hf; exact List.mem_map.2 ⟨p, this.1, this.2⟩
            · rw [List.mem_singleton] at hx; exact List.mem_map.2 ⟨p', hmem.1, by rw [hx]; exact hmem.2⟩)
          simpa [ids] using this
        have hbig : L.length + 1 ≤ 1000000 := by simp at hfewL; omega
        have hzB : r + 1 ≤ (w7.alloc (.cells #[.int .i64 k] 3)).heap.size := by simp; omega
        go_wp2_with (first
          | (at_builtin; refine at_appR elI (r + 1) rfl _ _ (by rfl) (by rfl) (ro_later o7 b8) I.nw (some ⟨w7.heap.size, 0, none⟩) 1 [.int .i64 k] (by rfl) (by simp) (fun e => by cases e) (fun ad e => by injection e with e; subst e; exact cell_one_new _ _ _) (by simp [Value.oneCell']) hbig hzB ?_; intro v9 w9 hA))
        obtain ⟨h1, h2, h3, h4, _⟩ := hA
        have s9 : Stp (fun x => u5.ownBlock = some x) w7 w9 := (Stp.of_below b8 _).trans h4
        have hrg9 := hrg7.step s9 (fun e => o7.map_ne hrg7.mp e) (fun e => by have := I.nw r e; omega)
        go_roundw
        case rel =>
          refine ⟨_, _, L ++ [k], hrg9, ?_, h2, Nat.lt_of_lt_of_le hlt7 s9.size, ((Stp.of_below B70 (fun _ => False)).next s9 (fun x e => .inr (by have := I.nw x e; omega))).below (Nat.le_refl _) (fun _ h => h.elim), hnd, hfewL, fun x => ?_⟩
          · unfold OwV; simpa using h1
          · rw [List.mem_append, I.mem, List.mem_singleton]
            constructor
            · rintro (⟨a1, a2, a3⟩ | rfl)
              · exact ⟨a1, by simp [a2], a3⟩
              · exact ⟨hfk _ (by rw [hpk, hc]), by simp, by rw [hpk, hc]⟩
            · rintro ⟨a1, a2, a3⟩
              by_cases e : x = k
              · exact .inr e
              · exact .inl ⟨a1, by simpa [e] using a2, a3⟩
        case measure => rw [hrg9.left_eq, I.rg.left_eq]; omega
    · refine (sort_own I.ow (by have := I.few; omega)).mono ?_
      rintro e w4 ⟨rfl, o4, s4⟩
      go_wp2_with fail
      go_returns
      refine ⟨_, rfl, ?_, fun x hx => by have := I.nw x hx; omega, ((Stp.of_below I.b (fun _ => False)).next s4 (fun x e => .inr (by have := I.nw x e; omega))).below (Nat.le_refl _) (fun _ h => h.elim)⟩
      have e : Go.Proofs.YtdfifneikmlmoaaGreat.srt L = ids (thP Z.l q) := by
        refine rising_one (srt_rising L I.nd) (ids_rise H.ok.srt q) fun x => ?_
        rw [srt_mem, I.mem, thP_mem H.ok.srt]
        exact ⟨fun h => h.2.2, fun h => ⟨hfk x h, hl x, h⟩⟩
      rw [← e]; exact o4
end Go.Proofs.YtdfifneikmlmoaaGreat
