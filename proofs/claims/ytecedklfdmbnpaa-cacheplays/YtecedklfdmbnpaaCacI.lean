/-
  What Changed and Sync of layer 13 do: no statement is proved here.
-/
import Derived.Test.YtecedklfdmbnpaaCacH
namespace Go.Proofs.Ytecedklfdmbnpaa
open Go.ChangeShapes Go.WideShapes Go.ChangeAt Go.RowKit
set_option linter.unusedVariables false
set_option linter.unusedSimpArgs false

theorem infoI : (Try.prog.info? 3).map (fun i => (i.zero, i.size, i.bytes)) = some (some (.int .i64 0), 1, 8) := by kernel_rfl
theorem OwV.base {w : World} {v : Value} {l : List Int} {B : Nat} (h : OwV w v l) (hN : New B v) : w.ownsRow B 3 1 v l.length (l.map (Value.int .i64)) := by
  rcases h.2 with ⟨e, e2⟩ | ⟨g, cap, cur, e, _, e3⟩
  · exact ⟨h.1, .inl ⟨e, e2⟩⟩
  · exact ⟨h.1, .inr ⟨g, cap, cur, e, hN g (by rw [e]; rfl), e3⟩⟩
section
variable {ops : Array Oper} {rest : List Oper} {o : Oper} {a : Act} {w : World} {Q : Exit → Act → World → Prop}
theorem at_appI {B : Nat} {v : Value} {l : List Int} (hgd : o.guard = none) (s x : Operand) (ho : o.op = .call { callee := .builtin .append, args := #[s, x], argTypes := #[51, 51] }) (hs : a.eval s = v) (h0 : OwV w v l) (hN : New B v)
    (ad : Addr) (y : Int) (hx : a.eval x = .slice (some ad) 1 1) (hnews : ∀ j u, ([Value.int .i64 y])[j]? = some u → w.cell? (ad.add j) = some u) (hbig : l.length ≤ 1000000) (hB : B ≤ w.heap.size)
    (h : ∀ v' w', OwV w' v' (l ++ [y]) → New B v' → Stp (fun x => v.ownBlock = some x) w w' → wpList Try.prog ops Q rest (a.put o.dst v') w') : wpList Try.prog ops Q (o :: rest) a w := by
  obtain ⟨i0, hi, hz0, hz1, hz2⟩ := info_parts infoI
  refine wpList_append_own_at w hgd s x 51 ho B 3 i0 (.int .i64 0) 1 8 (by kernel_rfl) hi hz0 hz1 hz2 rfl (by decide) v l.length (l.map (Value.int .i64)) hs (h0.base hN) ad 1 1 [.int .i64 y] hx (by simp) hnews (by simp [Value.oneCell']) (by unfold maxLen; omega) (by omega) hB ?_
  intro v' w' h1 h2 h3 h4
  refine h v' w' ?_ (fun r hr => ?_) (Stp.of_grown h2 (fun x e => .inl e))
  · have h5 : w'.ownsRow 0 3 1 v' (l.length + 1) (l.map (Value.int .i64) ++ [.int .i64 y]) := by
      rcases h1.2 with ⟨e, e2⟩ | ⟨g, cap, cur, e, _, e3⟩
      · exact ⟨h1.1, .inl ⟨e, e2⟩⟩
      · exact ⟨h1.1, .inr ⟨g, cap, cur, e, Nat.zero_le _, e3⟩⟩
    unfold OwV
    simpa using h5
  · rcases h4 with e | e
    · exact hN r (by rw [← e]; exact hr)
    · rw [hr] at e; injection e with e; omega
theorem at_nextP {b r : Nat} {f : Int → Option Value} {left : Int → Bool} {cnt : Nat} (hw : Region.wanted o (yielded ops a.tmps) = true) (x : Operand) (ho : o.op = Op.next x false)
    (hx : a.eval x = .pointer (some ⟨r, 0, none⟩)) (h : RgI Try.prog 3 w b r f left cnt) (hsh : ∀ k v, f k = some v → ∃ g, v = .pointer (some ⟨g, 0, none⟩))
    (h0 : (∀ k, left k = false) → wpList Try.prog ops Q rest (a.put o.dst (.tuple #[.bool false])) w)
    (h1 : ∀ k g w' cnt', (Lit.int .i64 k).wf = true → left k = true → f k = some (.pointer (some ⟨g, 0, none⟩)) → RgI Try.prog 3 w' b r f (fun x => left x && !decide (x = k)) cnt' → cnt' < cnt → Stp (fun x => x = r) w w' → w'.heap.size = w.heap.size →
      (Instr.entry (.pointer (some ⟨r, 0, none⟩))).run Try.prog w' = .ok (.tuple #[.int .i64 k, .pointer (some ⟨g, 0, none⟩)]) w' → wpList Try.prog ops Q rest (a.put o.dst (.tuple #[.bool true, .int .i64 k, .pointer (some ⟨g, 0, none⟩)])) w') : wpList Try.prog ops Q (o :: rest) a w :=
  at_next' hw x ho hx h h0 (fun k v w' cnt' a1 a2 a3 a4 a5 a6 a7 a8 => by
    obtain ⟨g, rfl⟩ := hsh k v a3
    exact h1 k g w' cnt' a1 a2 a3 a4 a5 a6 a7 a8)
end
/-- Part way: the keys that came, of those that are changed. -/
structure ChI (w : World) (gc g mp r : Nat) (sp ov : Value) (Z : CZ) (f : Int → Option Value) (E F G : Nat → Prop) (v : Value) (wr : World) (left : Int → Bool) (cnt : Nat) (L : List Int) : Prop where
  rg : RgI Try.prog 3 wr mp r f left cnt
  ow : OwV wr v L
  nw : New (r + 1) v
  lt : r < wr.heap.size
  b : Below w.heap.size w wr
  nd : L.Nodup
  few : L.length ≤ 64
  mem : ∀ x, x ∈ L ↔ ((f x).isSome = true ∧ left x = false ∧ isCh Z.l x = true)
theorem nodup_le : ∀ (L K : List Int), L.Nodup → (∀ x ∈ L, x ∈ K) → L.length ≤ K.length
  | [], _, _, _ => Nat.zero_le _
  | a :: t, K, hn, h => by
    rw [List.nodup_cons] at hn
    have ha : a ∈ K := h a (by simp)
    have := nodup_le t (K.erase a) hn.2 (fun x hx => (List.mem_erase_of_ne (fun e : x = a => hn.1 (by rw [← e]; exact hx))).2 (h x (List.mem_cons_of_mem _ hx)))
    rw [List.length_erase_of_mem ha] at this
    have := List.length_pos_of_mem ha
    simp only [List.length_cons]; omega
theorem keys_few {l : El} {L : List Int} (hn : L.Nodup) (h : ∀ x ∈ L, x ∈ keys l) : L.length ≤ l.length := by
  rw [← keys_len]
  exact nodup_le L (keys l) hn h
theorem isCh_key {l : El} {x : Int} (h : isCh l x = true) : x ∈ keys l := by
  unfold isCh at h
  cases hf : fnd l x with
  | none => rw [hf] at h; cases h
  | some q => exact mem_key (fnd_mem hf)
set_option maxRecDepth 100000 in
set_option maxHeartbeats 2000000 in
theorem changed_any {w : World} {gc g mp : Nat} {sp ov : Value} {Z : CZ} {f : Int → Option Value} {E F G : Nat → Prop} {t : Nat} (H : Cx w gc g sp Z mp ov f E F G) (ok : Z.ok t) :
    Calls Try.prog 17 #[.pointer (some ⟨gc, 0, none⟩)] w fun e w' => ∃ v', e = .returned v' ∧ OwV w' v' Z.chg ∧ New w.heap.size v' ∧ Below w.heap.size w w' := by
  obtain ⟨y0, y1, y2, y3, y4, y5⟩ := H.cm.cells
  have hsh : ∀ k v, f k = some v → ∃ g, v = .pointer (some ⟨g, 0, none⟩) := fun k v hv => by
    cases hl : fnd Z.l k with
    | none => rw [H.cm.no k hl] at hv; cases hv
    | some q =>
      obtain ⟨r, h1, _⟩ := H.cm.pg k q hl
      rw [h1] at hv; injection hv with hv; exact ⟨r, hv.symm⟩
  have hfk : ∀ x, x ∈ keys Z.l → (f x).isSome = true := fun x hx => by
    cases hl : fnd Z.l x with
    | none => exact absurd hx (fnd_none_iff.1 hl)
    | some q =>
      obtain ⟨r, h1, _⟩ := H.cm.pg x q hl
      rw [h1]; rfl
  have h64 : Z.l.length ≤ 64 := by have := ok.len; have := ok.n2; omega
  go_enter Try.func17, Try.ntmps17
  go_wp2_with (first
    | (refine at_range' (by rfl) _ (by rfl) (by rfl) (mp_range H.cm.mm uPgs) ?_; rintro w2 ⟨cnt, hrg, hk2, hz2⟩))
  go_frame
  obtain ⟨r, hr⟩ : ∃ r, r = w.heap.size := ⟨_, rfl⟩
  rw [← hr] at hrg ⊢
  have start : ChI w gc g mp r sp ov Z f E F G (.slice none 0 0) w2 (fun k => (f k).isSome) cnt [] :=
    ⟨hrg, OwV.nil w2, (fun x hx => by cases hx), by omega, hk2.below (Nat.le_refl _) (fun _ e => e.elim), List.nodup_nil, Nat.zero_le _, fun x => ⟨fun h => (by cases h), fun ⟨h1, h2, _⟩ => by rw [h1] at h2; cases h2⟩⟩
  have hwr : w.heap.size ≤ r := by omega
  clear hrg hz2 hk2 hr
  go_loopw [3] (fun v wr => ∃ left cnt L, ChI w gc g mp r sp ov Z f E F G v wr left cnt L) (fun _ wr => wr.rangeLeft mp r)
  case atStart => exact ⟨_, _, _, start⟩
  case round =>
    clear start
    obtain ⟨left, cnt, L, I⟩ := hrel
    have hnr : ¬ Al E F G r := H.far r hwr
    have H3 : Cx wr gc g sp Z mp ov f E F G := H.later I.b
    have come : ∀ k rp w3, f k = some (.pointer (some ⟨rp, 0, none⟩)) → Stp (fun x => x = r) wr w3 → ∃ q, fnd Z.l k = some q ∧ Cs w3 rp q.cs := fun k rp w3 hfk3 hs3 => by
      cases hl : fnd Z.l k with
      | none => rw [H.cm.no k hl] at hfk3; cases hfk3
      | some q =>
        obtain ⟨rp', h1, hE, hcp⟩ := H3.page hl
        obtain rfl : rp' = rp := by rw [h1] at hfk3; injection hfk3 with hfk3; injection hfk3 with hfk3; injection hfk3 with hfk3; injection hfk3
        exact ⟨q, rfl, hcp.step hs3 (fun e => hnr (.inl (e ▸ hE)))⟩
    go_wp2_with (first
      | (refine at_nextP (by rfl) _ (by rfl) (by rfl) I.rg hsh (fun hl => ?_) (fun k rp w3 cnt3 hwf hlk hfk3 hrg3 hc3 hs3 hz3 hen => ?_)
         rotate_left
         have hzz : Hid (w3.heap.size = wr.heap.size) := hz3
         obtain ⟨q, hq, hc4⟩ := come k rp w3 hfk3 hs3
         have x1 := Pg.ch_cell hc4
         have o3 : OwV w3 u3 L := I.ow.step hs3 (fun x hx e => by have := I.nw x hx; omega)
         have b4 : Below w3.heap.size w3 (w3.alloc (.cells #[.int .i64 k] 3)) := (Below.refl _ w3).alloc (Nat.le_refl _) _
         have o4 := o3.later b4
         have hz4 : r + 1 ≤ (w3.alloc (.cells #[.int .i64 k] 3)).heap.size := by have := b4.size; have := I.lt; omega
         clear hz3
         rcases hch : q.ch with _ | _ <;> rw [hch] at x1)
      | (at_builtin; refine at_appI rfl _ _ rfl rfl o4 I.nw ⟨w3.heap.size, 0, none⟩ k rfl (cell_one_new _ _ _) (by have := I.few; omega) hz4 ?_; intro v5 w5 o5 n5 s5))
    · have hki : k ∈ keys Z.l := mem_key (fnd_mem hq)
      have B3 : Below w.heap.size w w3 := ((Stp.of_below I.b (fun x => w.heap.size ≤ x)).next hs3 (fun x e => .inl (by omega))).below (Nat.le_refl _) (fun _ h => h)
      have hkL : k ∉ L := fun h => by have := ((I.mem k).1 h).2.1; rw [hlk] at this; cases this
      go_roundw
      case rel =>
        refine ⟨_, _, L, hrg3, o3, I.nw, by rw [hzz.out]; exact I.lt, B3, I.nd, I.few, fun x => ?_⟩
        rw [I.mem]
        constructor
        · rintro ⟨a1, a2, a3⟩; exact ⟨a1, by simp [a2], a3⟩
        · rintro ⟨a1, a2, a3⟩
          refine ⟨a1, ?_, a3⟩
          by_cases e : x = k
          · subst e; unfold isCh at a3; rw [hq] at a3; simp [hch] at a3
          · simpa [e] using a2
      case measure => rw [hrg3.left_eq, I.rg.left_eq]; omega
    · have hki : k ∈ keys Z.l := mem_key (fnd_mem hq)
      have B3 : Below w.heap.size w w3 := ((Stp.of_below I.b (fun x => w.heap.size ≤ x)).next hs3 (fun x e => .inl (by omega))).below (Nat.le_refl _) (fun _ h => h)
      have hkL : k ∉ L := fun h => by have := ((I.mem k).1 h).2.1; rw [hlk] at this; cases this
      have hnd : (L ++ [k]).Nodup := by
        rw [List.nodup_append]
        exact ⟨I.nd, by simp, fun a ha b hb e => hkL (by rw [List.mem_singleton] at hb; rw [← hb, ← e]; exact ha)⟩
      go_roundw
      case rel =>
        have s6 : Stp (fun x => u3.ownBlock = some x) w3 w5 := (Stp.of_below b4 _).trans s5
        refine ⟨_, _, L ++ [k], hrg3.step s6 (fun e => ?_) (fun e => by have := I.nw r e; omega), o5, n5, by have := s6.size; have := I.lt; have := hzz.out; omega, ((Stp.of_below B3 (fun x => w.heap.size ≤ x)).next s6 (fun x e => .inl (by have := I.nw x e; omega))).below (Nat.le_refl _) (fun _ h => h), hnd, ?_, fun x => ?_⟩
        · exact I.ow.map_ne I.rg.mp e
        · refine Nat.le_trans (keys_few hnd (fun x hx => ?_)) h64
          rcases List.mem_append.1 hx with hx | hx
          · exact isCh_key ((I.mem x).1 hx).2.2
          · rw [List.mem_singleton] at hx; rw [hx]; exact hki
        · rw [List.mem_append, I.mem, List.mem_singleton]
          constructor
          · rintro (⟨a1, a2, a3⟩ | rfl)
            · exact ⟨a1, by simp [a2], a3⟩
            · exact ⟨hfk _ hki, by simp, by unfold isCh; rw [hq]; exact hch⟩
          · rintro ⟨a1, a2, a3⟩
            by_cases e : x = k
            · exact .inr e
            · exact .inl ⟨a1, by simpa [e] using a2, a3⟩
      case measure =>
        have s6 : Stp (fun x => u3.ownBlock = some x) w3 w5 := (Stp.of_below b4 _).trans s5
        have hrg5 := hrg3.step s6 (fun e => I.ow.map_ne I.rg.mp e) (fun e => by have := I.nw r e; omega)
        rw [hrg5.left_eq, I.rg.left_eq]; omega
    · refine (sort_own I.ow (by have := I.few; omega)).mono ?_
      rintro e w4 ⟨rfl, o4, s4⟩
      go_wp2_with fail
      go_returns
      refine ⟨_, rfl, ?_, fun x hx => by have := I.nw x hx; omega, ((Stp.of_below I.b (fun x => w.heap.size ≤ x)).next s4 (fun x e => .inl (by have := I.nw x e; omega))).below (Nat.le_refl _) (fun _ h => h)⟩
      have e : srt L = Z.chg := by
        refine rising_one (srt_rising L I.nd) (chgN_sorted _ _) fun x => ?_
        rw [srt_mem, I.mem]
        unfold CZ.chg
        rw [mem_chgN]
        constructor
        · rintro ⟨_, _, h3⟩
          refine ⟨?_, h3⟩
          obtain ⟨e, he, hx⟩ := List.mem_map.1 (isCh_key h3)
          have := ok.inn e he
          unfold DS.inn at this
          rw [← hx]; exact this
        · rintro ⟨_, h3⟩
          exact ⟨hfk x (isCh_key h3), hl x, h3⟩
      rw [← e]; exact o4
end Go.Proofs.Ytecedklfdmbnpaa
