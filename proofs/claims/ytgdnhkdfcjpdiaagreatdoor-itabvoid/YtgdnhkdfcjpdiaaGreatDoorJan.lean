/-
  Texts of my own, joined: no statement is proved here.
-/
import Derived.Great.BuildSlice
import Derived.Test.YtgdnhkdfcjpdiaaGreatDoorJam
set_option linter.unusedSimpArgs false
set_option linter.unusedVariables false
namespace Go.Proofs.YtgdnhkdfcjpdiaaGreatDoor
open Go.ChangeShapes Go.WideShapes Go.ChangeAt Go.RowKit
theorem lit36 (b : Blk) (u : World) : (Instr.buildSlice 40 1 #[(0, .agg b.cs.toArray)]).run Tryz.prog u = .ok (.slice (some ⟨u.heap.size, 0, none⟩) 1 1) (u.alloc (.cells b.cs.toArray 88)) := by
  obtain ⟨ie, hie, hz, hs, hb⟩ := info_parts info36
  refine run_buildSlice u _ _ 1 _ b.cs.toArray ie (.agg Blk.zero.cs.toArray) u41 hie hz (by rw [hs]; omega) (by rw [hs]; omega) ?_
  rw [hs]
  have := Great.fill_whole (s := 64) (by omega) [.agg b.cs.toArray] ((Array.range (1 * 64)).map ((Value.agg Blk.zero.cs.toArray).cells[· % (Value.agg Blk.zero.cs.toArray).cells.size]!)) (by intro v hv; simp at hv; subst hv; simp [Value.cells, b.cs_len]) (by simp)
  simpa [Value.cells] using this
theorem fold36 (b : Blk) : List.foldl (fun (cs : Array Value) (x : Value × Nat) => cs.setIfInBounds x.snd x.fst) #[Value.int IntKind.u8 0, Value.int IntKind.u8 0, Value.int IntKind.u8 0, Value.int IntKind.u8 0, Value.int IntKind.u8 0, Value.int IntKind.u8 0, Value.int IntKind.u8 0, Value.int IntKind.u8 0, Value.int IntKind.u8 0, Value.int IntKind.u8 0, Value.int IntKind.u8 0, Value.int IntKind.u8 0, Value.int IntKind.u8 0, Value.int IntKind.u8 0, Value.int IntKind.u8 0, Value.int IntKind.u8 0, Value.int IntKind.u8 0, Value.int IntKind.u8 0, Value.int IntKind.u8 0, Value.int IntKind.u8 0, Value.int IntKind.u8 0, Value.int IntKind.u8 0, Value.int IntKind.u8 0, Value.int IntKind.u8 0, Value.int IntKind.u8 0, Value.int IntKind.u8 0, Value.int IntKind.u8 0, Value.int IntKind.u8 0, Value.int IntKind.u8 0, Value.int IntKind.u8 0, Value.int IntKind.u8 0, Value.int IntKind.u8 0, Value.int IntKind.u8 0, Value.int IntKind.u8 0, Value.int IntKind.u8 0, Value.int IntKind.u8 0, Value.int IntKind.u8 0, Value.int IntKind.u8 0, Value.int IntKind.u8 0, Value.int IntKind.u8 0, Value.int IntKind.u8 0, Value.int IntKind.u8 0, Value.int IntKind.u8 0, Value.int IntKind.u8 0, Value.int IntKind.u8 0, Value.int IntKind.u8 0, Value.int IntKind.u8 0, Value.int IntKind.u8 0, Value.int IntKind.u8 0, Value.int IntKind.u8 0, Value.int IntKind.u8 0, Value.int IntKind.u8 0, Value.int IntKind.u8 0, Value.int IntKind.u8 0, Value.int IntKind.u8 0, Value.int IntKind.u8 0, Value.int IntKind.u8 0, Value.int IntKind.u8 0, Value.int IntKind.u8 0, Value.int IntKind.u8 0, Value.int IntKind.u8 0, Value.int IntKind.u8 0, Value.int IntKind.u8 0, Value.int IntKind.u8 0] b.cs.zipIdx = b.cs.toArray := by
  obtain ⟨r, hr, hsz, hk⟩ := Great.fill_dense (s := 64) (by omega) [.agg b.cs.toArray] 0 #[Value.int IntKind.u8 0, Value.int IntKind.u8 0, Value.int IntKind.u8 0, Value.int IntKind.u8 0, Value.int IntKind.u8 0, Value.int IntKind.u8 0, Value.int IntKind.u8 0, Value.int IntKind.u8 0, Value.int IntKind.u8 0, Value.int IntKind.u8 0, Value.int IntKind.u8 0, Value.int IntKind.u8 0, Value.int IntKind.u8 0, Value.int IntKind.u8 0, Value.int IntKind.u8 0, Value.int IntKind.u8 0, Value.int IntKind.u8 0, Value.int IntKind.u8 0, Value.int IntKind.u8 0, Value.int IntKind.u8 0, Value.int IntKind.u8 0, Value.int IntKind.u8 0, Value.int IntKind.u8 0, Value.int IntKind.u8 0, Value.int IntKind.u8 0, Value.int IntKind.u8 0, Value.int IntKind.u8 0, Value.int IntKind.u8 0, Value.int IntKind.u8 0, Value.int IntKind.u8 0, Value.int IntKind.u8 0, Value.int IntKind.u8 0, Value.int IntKind.u8 0, Value.int IntKind.u8 0, Value.int IntKind.u8 0, Value.int IntKind.u8 0, Value.int IntKind.u8 0, Value.int IntKind.u8 0, Value.int IntKind.u8 0, Value.int IntKind.u8 0, Value.int IntKind.u8 0, Value.int IntKind.u8 0, Value.int IntKind.u8 0, Value.int IntKind.u8 0, Value.int IntKind.u8 0, Value.int IntKind.u8 0, Value.int IntKind.u8 0, Value.int IntKind.u8 0, Value.int IntKind.u8 0, Value.int IntKind.u8 0, Value.int IntKind.u8 0, Value.int IntKind.u8 0, Value.int IntKind.u8 0, Value.int IntKind.u8 0, Value.int IntKind.u8 0, Value.int IntKind.u8 0, Value.int IntKind.u8 0, Value.int IntKind.u8 0, Value.int IntKind.u8 0, Value.int IntKind.u8 0, Value.int IntKind.u8 0, Value.int IntKind.u8 0, Value.int IntKind.u8 0, Value.int IntKind.u8 0] (by intro v hv; simp at hv; subst hv; simp [Value.cells, b.cs_len]) (by simp)
  have := Great.fill_whole (s := 64) (by omega) [.agg b.cs.toArray] #[Value.int IntKind.u8 0, Value.int IntKind.u8 0, Value.int IntKind.u8 0, Value.int IntKind.u8 0, Value.int IntKind.u8 0, Value.int IntKind.u8 0, Value.int IntKind.u8 0, Value.int IntKind.u8 0, Value.int IntKind.u8 0, Value.int IntKind.u8 0, Value.int IntKind.u8 0, Value.int IntKind.u8 0, Value.int IntKind.u8 0, Value.int IntKind.u8 0, Value.int IntKind.u8 0, Value.int IntKind.u8 0, Value.int IntKind.u8 0, Value.int IntKind.u8 0, Value.int IntKind.u8 0, Value.int IntKind.u8 0, Value.int IntKind.u8 0, Value.int IntKind.u8 0, Value.int IntKind.u8 0, Value.int IntKind.u8 0, Value.int IntKind.u8 0, Value.int IntKind.u8 0, Value.int IntKind.u8 0, Value.int IntKind.u8 0, Value.int IntKind.u8 0, Value.int IntKind.u8 0, Value.int IntKind.u8 0, Value.int IntKind.u8 0, Value.int IntKind.u8 0, Value.int IntKind.u8 0, Value.int IntKind.u8 0, Value.int IntKind.u8 0, Value.int IntKind.u8 0, Value.int IntKind.u8 0, Value.int IntKind.u8 0, Value.int IntKind.u8 0, Value.int IntKind.u8 0, Value.int IntKind.u8 0, Value.int IntKind.u8 0, Value.int IntKind.u8 0, Value.int IntKind.u8 0, Value.int IntKind.u8 0, Value.int IntKind.u8 0, Value.int IntKind.u8 0, Value.int IntKind.u8 0, Value.int IntKind.u8 0, Value.int IntKind.u8 0, Value.int IntKind.u8 0, Value.int IntKind.u8 0, Value.int IntKind.u8 0, Value.int IntKind.u8 0, Value.int IntKind.u8 0, Value.int IntKind.u8 0, Value.int IntKind.u8 0, Value.int IntKind.u8 0, Value.int IntKind.u8 0, Value.int IntKind.u8 0, Value.int IntKind.u8 0, Value.int IntKind.u8 0, Value.int IntKind.u8 0] (by intro v hv; simp at hv; subst hv; simp [Value.cells, b.cs_len]) (by simp)
  simp only [List.zipIdx_cons, List.zipIdx_nil, List.map_cons, List.map_nil, Instr.fill, Value.cells] at this
  simpa [b.cs_len] using this
theorem Dk.row {F : Nat → Prop} {w : World} {g m1 m2 : Nat} {sp : Value} {S : DS} {f : Int → Option Value} (h : Dk w g sp m1 m2 S f F) (hm : MpI Tryz.prog 3 w m2 f) (k : Int) :
    ∃ a c, (f k).getD (.slice none 0 0) = .slice a (S.wt k).length c ∧ w.ownsRow 0 88 64 (.slice a (S.wt k).length c) (S.wt k).length (flat (S.wt k)) ∧ (Value.slice a (S.wt k).length c).ownBlock = (f k).bind Value.ownBlock ∧
      ∀ r, (f k).bind Value.ownBlock = some r → F r ∧ r ≠ g ∧ r ≠ m1 ∧ r ≠ m2 := by
  by_cases e : S.wt k = []
  · rw [h.w0 k e, e]; exact ⟨none, 0, rfl, World.ownsRow_nil w 0 _ 64, rfl, fun r hr => by cases hr⟩
  · obtain ⟨r, c, e1, hF, hr, ho⟩ := h.w1 k e
    rw [e1]
    refine ⟨_, c, rfl, ho, rfl, fun r' hr' => ?_⟩
    obtain rfl : r = r' := by simpa [Value.ownBlock] using hr'
    exact ⟨hF, hr, own_map_ne ho h.st, own_map_ne ho hm⟩
def DS.wrote (S : DS) (i : Int) (b : Blk) : DS := { S with wt := fun k => if k = i then S.wt i ++ [b] else S.wt k }
theorem Dk.written {F : Nat → Prop} {w w' : World} {g m1 m2 : Nat} {sp : Value} {S : DS} {f : Int → Option Value} (h : Dk w g sp m1 m2 S f F) (hm : MpI Tryz.prog 3 w m2 f) {i : Int} (hi : S.inn i) (b : Blk) {gg cap : Nat}
    (k : Stp (fun x => x = m2 ∨ (f i).bind Value.ownBlock = some x) w w') (ho : w'.ownsRow 0 88 64 (.slice (some ⟨gg, 0, none⟩) ((S.wt i).length + 1) cap) ((S.wt i).length + 1) (flat (S.wt i) ++ b.cs))
    (hat : (f i).bind Value.ownBlock = some gg ∨ w.heap.size ≤ gg) (hlt : gg < w'.heap.size) :
    Dk w' g sp m1 m2 (S.wrote i b) (upd f i (some (.slice (some ⟨gg, 0, none⟩) ((S.wt i).length + 1) cap))) (fun x => F x ∨ x = gg) := by
  obtain ⟨_, _, _, _, _, hrow⟩ := h.row hm i
  have hg : ¬ (g = m2 ∨ (f i).bind Value.ownBlock = some g) := fun e => by rcases e with e | e; exact hm.notCell h.c0 e; exact (hrow g e).2.1 rfl
  have hm1 : ¬ (m1 = m2 ∨ (f i).bind Value.ownBlock = some m1) := fun e => by rcases e with e | e; exact h.ne e; exact (hrow m1 e).2.2.1 rfl
  have hgg : gg ≠ g := fun e => by rcases hat with e1 | e1; exact (hrow gg e1).2.1 e; have := h.lt g h.fg; omega
  refine ⟨k.cell h.c0 hg, k.cell h.c1 hg, k.cell h.c2 hg, k.cell h.c3 hg, k.cell h.c4 hg, by rw [k.frozen (p := ⟨g, 4, none⟩) (h.lt g h.fg) hg]; exact h.z4, h.st.step k hm1,
    ⟨h.ok.n1, h.ok.n2, h.ok.st, fun j hj => by have : j ≠ i := fun e => hj (e ▸ hi); simp only [DS.wrote, if_neg this]; exact h.ok.wt j hj⟩, .inl h.fg, .inl h.f1, .inl h.f2, h.ne,
    fun x hx => by rcases hx with hx | hx; exact Nat.lt_of_lt_of_le (h.lt x hx) k.size; rw [hx]; exact hlt, fun j hj => ?_, fun j hj => ?_, fun j j' r e1 e2 => ?_⟩
  · by_cases e : j = i
    · simp [DS.wrote, e] at hj
    · simp only [DS.wrote, if_neg e] at hj; unfold upd; rw [if_neg e]; exact h.w0 j hj
  · by_cases e : j = i
    · subst e
      have e3 : (S.wrote j b).wt j = S.wt j ++ [b] := by simp [DS.wrote]
      rw [e3]
      refine ⟨gg, cap, by simp [upd], .inr rfl, hgg, ?_⟩
      rw [flat_snoc]; simpa using ho
    · have e3 : (S.wrote i b).wt j = S.wt j := by simp only [DS.wrote, if_neg e]
      rw [e3] at hj ⊢
      obtain ⟨r, c, e1, hF, hr, ho1⟩ := h.w1 j hj
      refine ⟨r, c, by unfold upd; rw [if_neg e]; exact e1, .inl hF, hr, own_step ho1 k (fun e2 => ?_)⟩
      rcases e2 with e2 | e2
      · exact own_map_ne ho1 hm e2
      · exact e (h.apart j i r (by rw [e1]; rfl) e2)
  · have far : ∀ j, j ≠ i → (f j).bind Value.ownBlock = some gg → False := fun j hj e => by
      obtain ⟨_, _, _, _, _, hrow2⟩ := h.row hm j
      rcases hat with e3 | e3
      · exact hj (h.apart j i gg e e3)
      · have := h.lt gg (hrow2 gg e).1; omega
    unfold upd at e1 e2
    by_cases n1 : j = i
    · by_cases n2 : j' = i
      · rw [n1, n2]
      · rw [if_pos n1] at e1; rw [if_neg n2] at e2
        obtain rfl : gg = r := by simpa [Value.ownBlock] using e1
        exact (far j' n2 e2).elim
    · by_cases n2 : j' = i
      · rw [if_neg n1] at e1; rw [if_pos n2] at e2
        obtain rfl : gg = r := by simpa [Value.ownBlock] using e2
        exact (far j n1 e1).elim
      · rw [if_neg n1] at e1; rw [if_neg n2] at e2; exact h.apart j j' r e1 e2
def DS.count (S : DS) : DS := { S with wr := wrap64 (S.wr + 1) }
theorem Dk.counted {F : Nat → Prop} {w : World} {g m1 m2 : Nat} {sp : Value} {S : DS} {f : Int → Option Value} (h : Dk w g sp m1 m2 S f F) (hm : MpI Tryz.prog 3 w m2 f) :
    Dk (w.setCell ⟨g, 4, none⟩ (.int .i64 (wrap64 (S.wr + 1)))) g sp m1 m2 S.count f F := by
  have k : Stp (fun x => x = g) w (w.setCell ⟨g, 4, none⟩ (.int .i64 (wrap64 (S.wr + 1)))) := (Stp.refl (fun x => x = g) w).setCell (p := ⟨g, 4, none⟩) (.inl rfl) _
  refine ⟨by rw [World.cell?_setCell_other _ _ _ _ (by simp)]; exact h.c0, by rw [World.cell?_setCell_other _ _ _ _ (by simp)]; exact h.c1, by rw [World.cell?_setCell_other _ _ _ _ (by simp)]; exact h.c2, by rw [World.cell?_setCell_other _ _ _ _ (by simp)]; exact h.c3,
    World.cell?_setCell_same _ _ _ h.c4, by simpa using h.z4, h.st.step k (fun e => h.st.notCell h.c0 e.symm), ⟨h.ok.n1, h.ok.n2, h.ok.st, h.ok.wt⟩, h.fg, h.f1, h.f2, h.ne, fun x hx => Nat.lt_of_lt_of_le (h.lt x hx) k.size, h.w0, fun j hj => ?_, h.apart⟩
  obtain ⟨r, c, e, hF, hr, ho⟩ := h.w1 j hj
  exact ⟨r, c, e, hF, hr, own_step ho k hr⟩
structure DD (w : World) (g : Nat) (sp : Value) (S : DS) (p : Option PS) (F G : Nat → Prop) : Prop where
  d : Disk w g sp S F
  s : Sup w sp p G
  fg : ∀ x, F x → ¬ G x
  gl : ∀ x, G x → x < w.heap.size
theorem DD.step {w w' : World} {g : Nat} {sp : Value} {S : DS} {p : Option PS} {F G B : Nat → Prop} (h : DD w g sp S p F G) (k : Stp B w w') (h1 : ∀ x, F x → ¬ B x) (h2 : ∀ x, G x → ¬ B x) : DD w' g sp S p F G :=
  ⟨h.d.step k h1, h.s.step k h2, h.fg, fun x hx => Nat.lt_of_lt_of_le (h.gl x hx) k.size⟩
def DS.write (S : DS) (p : Option PS) (i : Int) (b : Blk) : DS := if useRes S p i = 0 then (S.wrote i b).count else S
set_option maxRecDepth 100000 in
set_option maxHeartbeats 2000000 in
theorem write_anyD {w : World} {g : Nat} {sp : Value} {S : DS} {p : Option PS} {F G : Nat → Prop} (h : DD w g sp S p F G) (ok : oOk p) (i : Int) (b : Blk) (hn : (S.wt i).length < 100000) :
    Calls Tryz.prog 154 #[.pointer (some ⟨g, 0, none⟩), .int .i64 i, .agg b.cs.toArray] w fun e w' => e = .returned (.int .i64 (useRes S p i)) ∧ ∃ F', DD w' g sp (S.write p i b) (useP S p i) F' G ∧ Stp (fun x => F x ∨ G x) w w' ∧ Grew F F' w w' := by
  obtain ⟨⟨m1, m2, f, hd, hm⟩, hs, hFG, hGl⟩ := h
  have s0 : Stp (fun _ => False) w (w.alloc (.cells b.cs.toArray 88)) := Stp.of_alloc _ _ _
  have hu := use_any (hd.step s0 (fun _ _ => id)) (hs.step s0 (fun _ _ => id)) ok i
  have hlt := hd.lt g hd.fg
  by_cases he : useRes S p i = 0
  · have hi : S.inn i := Decidable.byContradiction fun hn => by unfold useRes at he; rw [if_neg hn] at he; cases he
    have hwf : (Lit.int .i64 i).wf = true := by have := hd.ok.n2; unfold DS.inn at hi; simp [Lit.wf, IntKind.min, IntKind.max, IntKind.bits, IntKind.signed]; omega
    have eW : S.write p i b = (S.wrote i b).count := if_pos he
    rw [eW, he]; rw [he] at hu
    go_enter Tryz.func154, Tryz.ntmps154
    go_wp2_with (go_at_call 157; refine hu.mono ?_; rintro e w1 ⟨rfl, hk1, hs1⟩)
    have hk2 : Stp G w w1 := (s0.mono (fun x hx => hx.elim)).trans hk1
    have hd1 := hd.step hk2 hFG
    have hm1 := hm.step hk2 (hFG m2 hd.f2)
    obtain ⟨a, c, eV, hown, hob, hrow⟩ := hd1.row hm1 i
    have hlk : ∀ u, Stp (fun _ => False) w1 u → (Instr.lookup 119 (.map (some m2)) (.int .i64 i) false).run Tryz.prog u = .ok (.slice a (S.wt i).length c) u := fun u k => by
      have := (hm1.step k id).look (t := 119) u3 u64 (zero41 u) hwf; rw [eV] at this; exact this
    have hl1 := hlk w1.drew (Stp.refl _ _).drew
    have hl2 := hlk (w1.alloc (.cells b.cs.toArray 88)).drew (Stp.of_alloc _ _ _).drew
    have hb36 := fold36 b
    obtain ⟨ie, hie, hz, hsz, hby⟩ := info_parts info36
    have hsw := hk2.size
    have hgB : ¬ ((f i).bind Value.ownBlock = some g ∨ g = m2) := fun e => by rcases e with e | e; exact (hrow g e).2.1 rfl; exact hm1.notCell hd1.c0 e
    have hwB : ¬ ((f i).bind Value.ownBlock = some w.heap.size ∨ w.heap.size = m2) := fun e => by
      rcases e with e | e
      · have := hd.lt _ (hrow _ e).1; omega
      · have := hd.lt m2 hd.f2; omega
    have hrg : w1.rangeAt w.heap.size 0 b.cs := hk1.range (made_range w _ _) (fun e => by have := hGl _ e; omega)
    have hS : ∀ u, Stp (fun x => (f i).bind Value.ownBlock = some x ∨ x = m2) w1 u → (u.cell? ⟨g, 3, none⟩ = some (.map (some m2)) ∧ u.rangeAt w.heap.size 0 b.cs) := fun u k => ⟨k.cell hd1.c3 hgB, k.range hrg hwB⟩
    have hkA : Stp (fun x => (f i).bind Value.ownBlock = some x ∨ x = m2) w1 (w1.alloc (.cells b.cs.toArray 88)).drew := (Stp.of_alloc _ _ _).drew
    have hkB : ∀ w3, (w1.alloc (.cells b.cs.toArray 88)).drew.grownBy w3 (Value.slice a (S.wt i).length c).ownBlock → Stp (fun x => (f i).bind Value.ownBlock = some x ∨ x = m2) w1 w3 := fun w3 hg => hkA.trans (Stp.of_grown hg (fun x hx => .inl (.inl (by rw [← hob]; exact hx))))
    have hkC : ∀ w3 w4, Stp (fun x => (f i).bind Value.ownBlock = some x ∨ x = m2) w1 w3 → w3.mapTurned w4 m2 → Stp (fun x => (f i).bind Value.ownBlock = some x ∨ x = m2) w1 w4 := fun w3 w4 k t => k.next (turned_stp t) (fun x hx => .inl (.inr hx))
    have hfew : ∀ k, (f k).isSome → 0 ≤ k ∧ k < 2048 := fun k hk => by
      have : S.inn k := Decidable.byContradiction fun hn => by rw [hd.w0 k (hd.ok.wt k hn)] at hk; cases hk
      unfold DS.inn at this; have := hd.ok.n2; omega
    have hst : ∀ w3 gg cap, (w1.alloc (.cells b.cs.toArray 88)).drew.grownBy w3 (Value.slice a (S.wt i).length c).ownBlock → ∃ w4, (Instr.mapUpdate 119 (.map (some m2)) (.int .i64 i) (.slice (some ⟨gg, 0, none⟩) ((S.wt i).length + 1) cap)).run Tryz.prog w3 = .ok () w4 ∧ MpI Tryz.prog 3 w4 m2 (upd f i (some (.slice (some ⟨gg, 0, none⟩) ((S.wt i).length + 1) cap))) ∧ w3.mapTurned w4 m2 := fun w3 gg cap hg => by
      have hm3 : MpI Tryz.prog 3 w3 m2 f := (hm1.step (Stp.of_alloc _ _ (fun _ => False)) id).step (F := fun x => (Value.slice a (S.wt i).length c).ownBlock = some x) ((Stp.refl _ _).drew.trans (Stp.of_grown hg (fun x hx => .inl hx))) (fun e => by rw [hob] at e; exact (hrow m2 e).2.2.2 rfl)
      exact hm3.store u3 u64 hfew hwf _
    have hN : ∀ j u, b.cs[j]? = some u → (w1.alloc (.cells b.cs.toArray 88)).drew.cell? ((⟨w1.heap.size, 0, none⟩ : Addr).add j) = some u := fun j u hu => World.news_of_block (w := (w1.alloc (.cells b.cs.toArray 88)).drew) (cs := b.cs.toArray) (t := 88) (fr := (0, 0)) (heap_alloc_new w1 _) j u (by simpa using hu)
    have hL : b.cs.length = 1 * 64 := by rw [b.cs_len]
    have h63 : (S.wt i).length + 1 ≤ maxLen := by unfold maxLen; omega
    have h47 : ((S.wt i).length + 1) * 64 ≤ 140737488355328 := by omega
    have fin : ∀ gg cap w3 w4, w3.ownsRow 0 88 64 (.slice (some ⟨gg, 0, none⟩) ((S.wt i).length + 1) cap) ((S.wt i).length + 1) (flat (S.wt i) ++ b.cs) → ((Value.slice a (S.wt i).length c).ownBlock = some gg ∨ gg = w1.heap.size + 1) → gg < w3.heap.size → Stp (fun x => (f i).bind Value.ownBlock = some x ∨ x = m2) w1 w3 → w3.mapTurned w4 m2 → MpI Tryz.prog 3 w4 m2 (upd f i (some (.slice (some ⟨gg, 0, none⟩) ((S.wt i).length + 1) cap))) →
        (w4.cell? ⟨g, 4, none⟩ = some (.int .i64 S.wr) ∧ w4.frozen? ⟨g, 4, none⟩ = false) ∧ ∃ F', DD (w4.setCell ⟨g, 4, none⟩ (.int .i64 (wrap64 (S.wr + 1)))) g sp (S.wrote i b).count (useP S p i) F' G ∧ Stp (fun x => F x ∨ G x) w (w4.setCell ⟨g, 4, none⟩ (.int .i64 (wrap64 (S.wr + 1)))) ∧ Grew F F' w (w4.setCell ⟨g, 4, none⟩ (.int .i64 (wrap64 (S.wr + 1)))) := fun gg cap w3 w4 ho hat hl k3 t4 m4 => by
      rw [hob] at hat
      have k4 := hkC w3 w4 k3 t4
      have hl4 : gg < w4.heap.size := Nat.lt_of_lt_of_le hl (turned_stp t4).size
      have hgm : gg ≠ m2 := fun e => by
        rcases hat with e1 | e1
        · exact (hrow gg e1).2.2.2 e
        · have := hd1.lt m2 hd1.f2; omega
      have hat' : (f i).bind Value.ownBlock = some gg ∨ w1.heap.size ≤ gg := hat.imp id (fun e => by omega)
      have D4 := hd1.written hm1 hi b (k4.mono (fun x hx => .inl hx.symm)) (own_step ho (turned_stp t4) hgm) hat' hl4
      have k5 : Stp (fun x => F x ∨ G x) w w4 := ((hk2.mono (F' := fun x => F x ∨ G x) (fun x hx => .inl (.inr hx))).next k4 (fun x hx => by rcases hx with hx | hx; exact .inl (.inl (hrow x hx).1); subst hx; exact .inl (.inl hd.f2)))
      have k6 : Stp (fun x => x = g) w4 (w4.setCell ⟨g, 4, none⟩ (.int .i64 (wrap64 (S.wr + 1)))) := (Stp.refl (fun x => x = g) w4).setCell (p := ⟨g, 4, none⟩) (.inl rfl) _
      have gG : ∀ x, F x ∨ x = gg → ¬ G x := fun x hx => by
        rcases hx with hx | hx
        · exact hFG x hx
        · subst hx
          rcases hat with e1 | e1
          · exact hFG _ (hrow _ e1).1
          · intro e; have := hGl _ e; omega
      refine ⟨⟨D4.c4, D4.z4⟩, fun x => F x ∨ x = gg, ⟨⟨m1, m2, _, D4.counted m4, m4.step k6 (fun e => m4.notCell D4.c0 e.symm)⟩, ?_, gG, fun x hx => Nat.lt_of_lt_of_le (hGl x hx) (k5.next k6 (fun x hx => .inl (.inl (hx ▸ hd.fg)))).size⟩, k5.next k6 (fun x hx => .inl (.inl (hx ▸ hd.fg))), fun x hx => ?_⟩
      · refine (hs1.step k4 (fun x hx e => ?_)).step k6 (fun x hx e => hFG g hd.fg (e ▸ hx))
        rcases e with e | e
        · exact hFG x (hrow x e).1 hx
        · exact hFG m2 hd.f2 (e ▸ hx)
      · rcases hx with hx | hx
        · exact .inl hx
        · subst hx
          rcases hat with e1 | e1
          · exact .inl (hrow _ e1).1
          · refine .inr ⟨by omega, Nat.lt_of_lt_of_le hl4 k6.size⟩
    clear hlk
    have u36' := u36
    have s36 := size36 b
    clear eW he hu
    go_region_held3 (fun u => u.cell? ⟨g, 3, none⟩ = some (.map (some m2)) ∧ u.rangeAt w.heap.size 0 b.cs)
      (first | exact hS _ (Stp.refl _ _).drew | exact hS _ hkA | exact hS _ (hkB _ hg3) | exact hS _ (hkC _ _ (hkB _ hg3) ht4))
      ((refine step_append_lies _ (by rfl) _ _ _ (by rfl) 0 88 ie _ 64 64 u41 hie hz hsz hby (by rfl) (by omega) (.slice a (S.wt i).length c) (S.wt i).length (flat (S.wt i)) (by rfl) ((hown.alloc _).drew) ⟨w1.heap.size, 0, none⟩ 1 1 b.cs (by rfl) hL hN b.cs_one (by omega) h63 h47 (Nat.zero_le _) (w1.heap.size + 1) (by simp) ?_; intro gg cap w3 ho3 hg3 hat3 hlt3; obtain ⟨w4, hr4, hm4, ht4⟩ := hst w3 gg cap hg3))
    all_goals
      obtain ⟨⟨q1, q2⟩, q3⟩ := fin gg cap w3 w4 ho3 hat3 hlt3 (hkB _ hg3) ht4 hm4
      clear fin hst hkA hkB hkC hS hN hob hrow hown
      go_wp2
      go_returns
      exact ⟨rfl, q3⟩
  · have eW : S.write p i b = S := if_neg he
    rw [eW]
    go_enter Tryz.func154, Tryz.ntmps154
    go_wp2_with (go_at_call 157; refine hu.mono ?_; rintro e w1 ⟨rfl, hk1, hs1⟩)
    go_returns
    have hk2 : Stp G w w1 := (s0.mono (fun x hx => hx.elim)).trans hk1
    exact ⟨rfl, F, ⟨⟨m1, m2, f, hd.step hk2 hFG, hm.step hk2 (hFG m2 hd.f2)⟩, hs1, hFG, fun x hx => Nat.lt_of_lt_of_le (hGl x hx) hk2.size⟩, hk2.mono (fun x hx => .inl (.inr hx)), Grew.refl _ _ _⟩
theorem settle_anyD {F : Nat → Prop} {w : World} {g m1 m2 : Nat} {sp : Value} {S : DS} {f : Int → Option Value} (h : Dk w g sp m1 m2 S f F) (hm : MpI Tryz.prog 3 w m2 f) (i : Int) (hi : S.inn i) (b : Blk) :
    Calls Tryz.prog 45 #[.pointer (some ⟨g, 0, none⟩), .int .i64 i, .agg b.cs.toArray] w fun e w' => e = .returned (.tuple #[]) ∧ Dk w' g sp m1 m2 (S.settle i b) (upd f i none) F ∧ MpI Tryz.prog 3 w' m2 (upd f i none) ∧ Stp (fun x => x = m1 ∨ x = m2) w w' := by
  have hwf : (Lit.int .i64 i).wf = true := by have := h.ok.n2; unfold DS.inn at hi; simp [Lit.wf, IntKind.min, IntKind.max, IntKind.bits, IntKind.signed]; omega
  exact settle_core h i hi b (fun u f => MpI Tryz.prog 3 u m2 f) (fun _ => False) hm (fun _ _ h => h) id (fun u u' f B h k hB _ => h.step k hB) (fun u f ty h => h.drop u3 u64 hwf ty)
def DS.part (S : DS) (h : Int → Blk) (left : Int → Bool) : DS := { S with st := fun k => if left k then S.st k else h k, wt := fun k => if left k then S.wt k else [] }
theorem shown_st {S : DS} {k : Int} (h : S.wt k = []) : S.shown k = S.st k := by unfold DS.shown shownBy; rw [h]; rfl
end Go.Proofs.YtgdnhkdfcjpdiaaGreatDoor
