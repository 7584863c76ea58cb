/-
  What few of the statements of layer 15 returns, and patches that come in: no statement is proved here.
-/
import Derived.Test.YteceapdkgidenaaMadeA
import Derived.Lib.Walk
import Derived.Deep.RegionLaw
import Derived.OpenShut
import Derived.Test.YteceapdkgidenaaRoG
namespace Go.Proofs.Yteceapdkgidenaa
open Go.ChangeShapes Go.WideShapes Go.ChangeAt Go.RowKit
set_option linter.unusedVariables false
set_option linter.unusedSimpArgs false

def iV (x : Int) : Value := .int .i64 x
/-- The slice v, of one's own, holds just l. -/
def OwV (w : World) (v : Value) (l : List Int) : Prop := w.ownsRow 0 3 1 v l.length (l.map (Value.int .i64))
section
variable {w w' : World} {v : Value} {l : List Int} {F : Nat → Prop}
theorem OwV.nil (w : World) : OwV w (.slice none 0 0) [] := ⟨rfl, .inl ⟨rfl, rfl⟩⟩
/-- Its row. -/
structure Rw1 (w : World) (g cap : Nat) (l : List Int) (cur : Array Value) : Prop where
  at' : w.heap[g]? = some (.cells cur 3 (0, 0))
  le : l.length ≤ cap
  cm : cap ≤ maxLen
  size : cur.size = cap
  take : cur.toList.take l.length = l.map (Value.int .i64)
theorem OwV.row (h : OwV w v l) : (v = .slice none 0 0 ∧ l = []) ∨ ∃ g cap cur, v = .slice (some ⟨g, 0, none⟩) l.length cap ∧ Rw1 w g cap l cur := by
  rcases h.2 with ⟨h1, h2⟩ | ⟨g, cap, cur, h1, _, h3, h4, h5, h6, h7⟩
  · exact .inl ⟨h1, List.eq_nil_of_length_eq_zero h2⟩
  · rw [Nat.mul_one] at h6 h7
    exact .inr ⟨g, cap, cur, h1, h3, h4, h5, h6, h7⟩
theorem Rw1.own {g cap : Nat} {cur : Array Value} (h : Rw1 w g cap l cur) : OwV w (.slice (some ⟨g, 0, none⟩) l.length cap) l :=
  ⟨by simp, .inr ⟨g, cap, cur, rfl, Nat.zero_le _, h.at', h.le, h.cm, by rw [Nat.mul_one]; exact h.size, by rw [Nat.mul_one]; exact h.take⟩⟩
theorem Rw1.lt {g cap : Nat} {cur : Array Value} (h : Rw1 w g cap l cur) : g < w.heap.size := (Array.getElem?_eq_some_iff.1 h.at').1
theorem Rw1.cell {g cap : Nat} {cur : Array Value} (h : Rw1 w g cap l cur) (i : Nat) (hi : i < l.length) : w.cell? ⟨g, i, none⟩ = some (.int .i64 (l.getD i 0)) := by
  rw [cell_of_row w g i _ _ (0, 0) h.at']
  have h1 : (cur.toList.take l.length)[i]? = (l.map (Value.int .i64))[i]? := by rw [h.take]
  rw [List.getElem?_take, if_pos hi, List.getElem?_map, List.getElem?_eq_getElem hi] at h1
  rw [List.getD_eq_getElem?_getD, List.getElem?_eq_getElem hi]
  simpa using h1
theorem Rw1.frozen {g cap : Nat} {cur : Array Value} (h : Rw1 w g cap l cur) (i : Nat) : w.frozen? ⟨g, i, none⟩ = false := by simp [World.frozen?, h.at']
theorem Rw1.has {g cap : Nat} {cur : Array Value} (h : Rw1 w g cap l cur) (i : Nat) (hi : i < cap) : (w.cell? ⟨g, i, none⟩).isSome = true := by
  rw [cell_of_row w g i _ _ (0, 0) h.at', Array.getElem?_eq_getElem (by rw [h.size]; exact hi)]; rfl
theorem OwV.lt (h : OwV w v l) {r : Nat} (hr : v.ownBlock = some r) : r < w.heap.size := by
  rcases h.row with ⟨rfl, _⟩ | ⟨g, cap, cur, rfl, hw⟩
  · cases hr
  · have : g = r := by simpa [Value.ownBlock] using hr
    rw [← this]; exact hw.lt
theorem OwV.step (h : OwV w v l) (k : Stp F w w') (hF : ∀ r, v.ownBlock = some r → ¬ F r) : OwV w' v l := by
  rcases h.row with ⟨rfl, rfl⟩ | ⟨g, cap, cur, rfl, hw⟩
  · exact OwV.nil w'
  · exact Rw1.own (cur := cur) ⟨by rw [k.block g hw.lt (hF g rfl)]; exact hw.at', hw.le, hw.cm, hw.size, hw.take⟩
theorem OwV.later (h : OwV w v l) (k : Below w.heap.size w w') : OwV w' v l := h.step (Stp.of_below k (fun _ => False)) (fun _ _ => id)
theorem OwV.map_ne {P : Program} {K : TypeId} {b : Nat} {f : Int → Option Value} (h : OwV w v l) (hm : MpI P K w b f) : v.ownBlock ≠ Option.some b := by
  intro e
  rcases h.row with ⟨rfl, _⟩ | ⟨g, cap, cur, rfl, hw⟩
  · cases e
  · have : g = b := by simpa [Value.ownBlock] using e
    obtain ⟨D, ⟨es, clock, hh, _⟩, _⟩ := hm
    have hg := hw.at'
    rw [this, hh] at hg; cases hg
end
theorem Rw1.cells {w : World} {g cap : Nat} {l : List Int} {cur : Array Value} (h : Rw1 w g cap l cur) : ∀ j v, (l.map (Value.int .i64))[j]? = some v → w.cell? ⟨g, 0 + j, none⟩ = some v := by
  intro j v hv
  have hj := (List.getElem?_eq_some_iff.1 hv).1
  rw [List.length_map] at hj
  rw [Nat.zero_add, h.cell j hj, ← hv, List.getElem?_map, List.getElem?_eq_getElem hj, List.getD_eq_getElem?_getD, List.getElem?_eq_getElem hj]
  rfl
theorem OwV.shape {w : World} {v : Value} {l : List Int} (h : OwV w v l) : ∃ a n c, v = .slice a n c := by
  rcases h.row with ⟨e, _⟩ | ⟨g, cap, cur, e, _⟩
  · exact ⟨_, _, _, e⟩
  · exact ⟨_, _, _, e⟩
theorem OwV.one {w : World} {v : Value} {l : List Int} (h : OwV w v l) : v.oneCell' = true := by
  rcases h.row with ⟨rfl, _⟩ | ⟨g, cap, cur, rfl, _⟩ <;> rfl
theorem OwV.row1 {w : World} {v : Value} {l : List Int} (h : OwV w v l) (hl : l ≠ []) : ∃ g cap cur, v = .slice (some ⟨g, 0, none⟩) l.length cap ∧ Rw1 w g cap l cur := by
  rcases h.row with ⟨_, e⟩ | h
  · exact absurd e hl
  · exact h
/-- .. as a slice that reads so. -/
theorem OwV.ins {w : World} {v : Value} {l : List Int} {B : Nat} (h : OwV w v l) (hl : ∀ x ∈ l, wfi x) (hN : New B v) : ∃ s : Sv, v = s.v ∧ s.n = l.length ∧ InsS w s l ∧ InE (fun x => B ≤ x ∧ x < w.heap.size) s := ro_ins h hl hN
end Go.Proofs.Yteceapdkgidenaa
namespace Go.Proofs.Yteceapdkgidenaa
open Go.ChangeShapes Go.WideShapes Go.ChangeAt Go.RowKit
set_option linter.unusedVariables false
set_option linter.unusedSimpArgs false

/-- A patch with not too many bytes and needs. -/
def fewP (p : Pt) : Pt := { p with data := p.data.take 70, needs := p.needs.take 6 }
theorem take_cut (l : List Int) (k : Nat) : l.take (min l.length k) = l.take k := by
  by_cases h : l.length ≤ k
  · rw [Nat.min_eq_left h, List.take_length, List.take_of_length_le h]
  · rw [Nat.min_eq_right (by omega)]
theorem BsS.cut {w : World} {s : Sv} {l : List Int} (h : BsS w s l) (k : Nat) : BsS w ⟨s.a, min s.n k, s.c⟩ (l.take k) := by
  have := Bs.take h (min s.n k) (Nat.min_le_left _ _)
  have e := h.len
  rw [← e, take_cut] at this
  rw [← e]; exact this
theorem InsS.cut {w : World} {s : Sv} {l : List Int} (h : InsS w s l) (k : Nat) : InsS w ⟨s.a, min s.n k, s.c⟩ (l.take k) := by
  have hl := h.i.len
  refine ⟨⟨by simp only [List.length_take]; omega, Nat.le_trans (Nat.min_le_left _ _) h.i.le, h.i.cap, fun x hx => h.i.wf x (List.mem_of_mem_take hx), fun hn => ?_⟩, h.nl⟩
  simp only at hn
  obtain ⟨b, o, e, hc⟩ := h.i.cell (by omega)
  refine ⟨b, o, e, fun i hi => ?_⟩
  simp only at hi
  rw [hc i (by omega), List.getD_eq_getElem?_getD, List.getD_eq_getElem?_getD, List.getElem?_take, if_pos (by omega)]
set_option maxRecDepth 100000 in
set_option maxHeartbeats 2000000 in
theorem ints_own {w : World} {s : Sv} {l : List Int} (h : InsS w s l) (hl : l.length ≤ 100000) :
    Calls Try.prog 20 #[.slice s.a s.n s.c] w fun e w' => ∃ s' : Sv, e = .returned (.slice s'.a s'.n s'.c) ∧ InsS w' s' l ∧ InE (fun x => w.heap.size ≤ x ∧ x < w'.heap.size) s' ∧ Below w.heap.size w w' ∧ OwV w' (.slice s'.a s'.n s'.c) l ∧ New w.heap.size (.slice s'.a s'.n s'.c) := by
  have hlen : l.length = s.n := h.i.len
  have hcs := h.cells
  have qnB : ∀ (w : World) (a : Option Addr) (n c n' c' : Nat), (binOp .eql 24 (.slice a n c) (.slice none n' c')).run Try.prog w = .ok (.bool a.isNone) w := fun w a n c n' c' => Lib.run_eql_slice_nil w _ _ a n c n' c' elB.und
  have qnI : ∀ (w : World) (a : Option Addr) (n c n' c' : Nat), (binOp .eql 25 (.slice a n c) (.slice none n' c')).run Try.prog w = .ok (.bool a.isNone) w := fun w a n c n' c' => Lib.run_eql_slice_nil w _ _ a n c n' c' elI.und
  have hz := h.zero
  have hby := h.i.wf
  obtain ⟨sa, sn, sc⟩ := s
  simp only at hlen hcs hz ⊢
  subst hlen
  have fin : ∀ v' w', Apd (w.alloc (.cells #[] 3)) w.heap.size 3 1 (.slice (some ⟨w.heap.size, 0, none⟩) 0 0) 0 l.length ([] ++ l.map (Value.int .i64)) v' w' →
      ∃ s' : Sv, Ending.returned v' = .returned (.slice s'.a s'.n s'.c) ∧ InsS w' s' l ∧ InE (fun x => w.heap.size ≤ x ∧ x < w'.heap.size) s' ∧ Below w.heap.size w w' ∧ OwV w' (.slice s'.a s'.n s'.c) l ∧ New w.heap.size (.slice s'.a s'.n s'.c) := by
    intro v' w' hA
    obtain ⟨h1, h2, h3, h4, h5⟩ := hA
    rw [Nat.zero_add, List.nil_append] at h1
    obtain ⟨s', rfl, e2, e3, e4⟩ := ro_ins h1 hby h2
    refine ⟨s', rfl, e3, e4, ?_, h1, h2⟩
    have k0 : Stp (fun _ => False) w (w.alloc (.cells #[] 3)) := Stp.of_alloc _ _ _
    exact (k0.next h4 (F' := fun x => some w.heap.size = some x) (fun x e => .inr (by injection e with e; omega))).below (Nat.le_refl _) (fun x e => e.elim)
  have q0 : (w.alloc (.cells #[] 3)).ownsRow 0 3 1 (.slice (some ⟨w.heap.size, 0, none⟩) 0 0) 0 [] := World.ownsRow_made w #[] 0 (Nat.zero_le _) (Nat.zero_le _) rfl
  have hN : New w.heap.size (.slice (some ⟨w.heap.size, 0, none⟩) 0 0) := fun r e => by
    have : w.heap.size = r := by simpa [Value.ownBlock] using e
    omega
  have hcs' : ∀ ad, sa = some ad → ∀ j u, (l.map (Value.int .i64))[j]? = some u → (w.alloc (.cells #[] 3)).cell? (ad.add j) = some u := fun ad e j u hu => by
    have := hcs ad e j u hu
    rw [((Below.refl _ w).alloc (Nat.le_refl _) (.cells #[] 3)).cell (World.block_lt_of_cell? w _ this)]; exact this
  cases sa with
  | none =>
    obtain ⟨z1, z2, rfl⟩ := hz rfl
    subst z2
    simp only [List.length_nil] at fin hcs' ⊢
    go_enter Try.func20, Try.ntmps20
    go_wp2_with (first
      | (refine at_appR elI w.heap.size rfl _ _ (by rfl) (by rfl) q0 hN none 0 [] (by rfl) (by simp) (fun e => ⟨rfl, rfl⟩) (fun ad e => by cases e) (fun u hu => by cases hu) (by omega) (by simp) ?_; intro v' w' hA; obtain ⟨s', e1, e2⟩ := fin v' w' hA; injection e1 with e1; subst e1))
    go_returns
    exact ⟨s', rfl, e2⟩
  | some ad =>
    go_enter Try.func20, Try.ntmps20
    go_wp2_with (first
      | (refine at_appR elI w.heap.size rfl _ _ (by rfl) (by rfl) q0 hN (some ad) sc (l.map (Value.int .i64)) (by rfl) (by simp) (fun e => by cases e) hcs' (fun u hu => by obtain ⟨x, _, rfl⟩ := List.mem_map.1 hu; rfl) (by omega) (by simp) ?_; intro v' w' hA; obtain ⟨s', e1, e2⟩ := fin v' w' hA; injection e1 with e1; subst e1))
    go_returns
    exact ⟨s', rfl, e2⟩
set_option maxRecDepth 100000 in
set_option maxHeartbeats 4000000 in
theorem few_any {w : World} (p : Pt) (d n : Sv) (hb : BsS w d p.data) (hi : InsS w n p.needs) :
    Calls Try.prog 8 #[.agg (p.cs d n).toArray] w fun e w' => ∃ d' n' : Sv, e = .returned (.agg ((fewP p).cs d' n').toArray) ∧ PtM w' (Made w w') (fewP p) d' n' ∧ Below w.heap.size w w' ∧ OwV w' (.slice n'.a n'.n n'.c) (fewP p).needs ∧ New w.heap.size (.slice n'.a n'.n n'.c) ∧ (∀ r, (Value.slice n'.a n'.n n'.c).ownBlock = some r → InE (fun y => y ≠ r) d') := by
  have t1 : True := trivial
  have t2 : True := trivial
  have t3 : True := trivial
  have t4 : True := trivial
  have ld : d.n ≤ maxLen := Nat.le_trans hb.le hb.cap
  have ln : n.n ≤ maxLen := Nat.le_trans hi.i.le hi.i.cap
  have le1 := hb.le
  have le2 := hi.i.le
  have em1 : (min (d.n : Int) 70) = ((min d.n 70 : Nat) : Int) := by omega
  have em2 : (min (n.n : Int) 6) = ((min n.n 6 : Nat) : Int) := by omega
  go_enter Try.func8, Try.ntmps8
  go_wp2_with (first
    | (clear t1; refine at_boxP (by rfl) _ (by rfl) p d n (by rfl) ?_; intro g1 w1 a1 a2 r1 b1)
    | (clear t2; refine at_newP (by rfl) (by rfl) ?_; intro g2 w2 a3 a4 r2 b2
       have r12 := r1.later b2
       have c3 := (Pt.cells r12).2.2.2.1
       have B2 := bnext b1 b2 (Nat.le_refl _))
    | (go_at_call 29; refine (gbytes_any ((hb.later B2).cut 70) (by simp; omega)).mono ?_; rintro e w3 ⟨d', rfl, q1, q2, q3⟩
       clear c3
       have r13 := r12.later q3
       have c3 := (Pt.cells r13).2.2.2.1
       have c5 := (Pt.cells r13).2.2.2.2.2.1
       have f3 := r13.frozen 3
       have r4 : Cs (w3.setCell ⟨g1, 3, none⟩ (.slice d'.a d'.n d'.c)) g1 (({ p with data := p.data.take 70 } : Pt).cs d' n) := r13.set 3 (.slice d'.a d'.n d'.c) rfl
       have s4 : Stp (fun x => x = g1) w3 (w3.setCell ⟨g1, 3, none⟩ (.slice d'.a d'.n d'.c)) := (Stp.refl (fun x => x = g1) w3).setCell (p := ⟨g1, 3, none⟩) (.inl rfl) _
       have B4 : Below w.heap.size w (w3.setCell ⟨g1, 3, none⟩ (.slice d'.a d'.n d'.c)) := ((Stp.of_below (bnext B2 q3 (Nat.le_refl _)) (fun _ => False)).next s4 (fun x e => .inr (by omega))).below (Nat.le_refl _) (fun x e => e.elim)
       have r24 := (r2.later q3).step s4 (by omega)
       have q14 := q1.step s4 q2 (fun x hx e => by have := hx.1; omega))
    | (go_at_call 20; refine (ints_own ((hi.later B4).cut 6) (by simp; omega)).mono ?_; rintro e w5 ⟨n', rfl, q5, q6, q7, q8, q9⟩
       clear c3 c5 f3
       have r15 := r4.later q7
       have c5 := (Pt.cells r15).2.2.2.2.2.1
       have f5 := r15.frozen 5
       have r6 : Cs (w5.setCell ⟨g1, 5, none⟩ (.slice n'.a n'.n n'.c)) g1 ((fewP p).cs d' n') := r15.set 5 (.slice n'.a n'.n n'.c) rfl
       have s6 : Stp (fun x => x = g1) w5 (w5.setCell ⟨g1, 5, none⟩ (.slice n'.a n'.n n'.c)) := (Stp.refl (fun x => x = g1) w5).setCell (p := ⟨g1, 5, none⟩) (.inl rfl) _
       have B6 : Below w.heap.size w (w5.setCell ⟨g1, 5, none⟩ (.slice n'.a n'.n n'.c)) := ((Stp.of_below (bnext B4 q7 (Nat.le_refl _)) (fun _ => False)).next s6 (fun x e => .inr (by omega))).below (Nat.le_refl _) (fun x e => e.elim)
       have e4 : (w3.setCell ⟨g1, 3, none⟩ (.slice d'.a d'.n d'.c)).heap.size = w3.heap.size := by simp
       have z3 := q3.size
       have r26 := (r24.later q7).step s6 (by omega)
       have q16 := (q14.later q7).step s6 q2 (fun x hx e => by have := hx.1; omega)
       have q56 := q5.step s6 q6 (fun x hx e => by have := hx.1; omega)
       have q86 := q8.step s6 (fun r hr e => by have := q9 r hr; omega))
    | (clear t3; refine at_getP0 (by rfl) _ (by rfl) g1 (by rfl) (fewP p) d' n' r6 ?_)
    | (clear t4; refine at_putP (by rfl) _ _ (by rfl) g2 (by rfl) (fewP p) d' n' (by rfl) _ r26 rfl ?_; intro w7 r7 s7))
  have z7 := s7.size
  have z6 : (w5.setCell ⟨g1, 5, none⟩ (.slice n'.a n'.n n'.c)).heap.size = w5.heap.size := by simp
  have zq := q7.size
  have zB := B2.size
  refine bodyPost_ret (retC srtP rfl rfl r7 rfl) rfl ⟨d', n', rfl, ⟨q16.step s7 q2 (fun x hx e => by have := hx.1; omega), q56.step s7 q6 (fun x hx e => by have := hx.1; omega), q2.mono (fun x hx => ⟨by omega, by omega⟩), q6.mono (fun x hx => ⟨by omega, by omega⟩)⟩, ?_, q86.step s7 (fun r hr e => by have := q9 r hr; omega), fun r hr => by have := q9 r hr; omega, fun r hr => q2.mono (fun y hy e => by have := q9 r hr; have := hy.2; omega)⟩
  exact ((Stp.of_below B6 (fun _ => False)).next s7 (fun x e => .inr (by have := b1.size; omega))).below (Nat.le_refl _) (fun x e => e.elim)
end Go.Proofs.Yteceapdkgidenaa
namespace Go.Proofs.Yteceapdkgidenaa
open Go.ChangeShapes Go.WideShapes Go.ChangeAt Go.RowKit
set_option linter.unusedVariables false
set_option linter.unusedSimpArgs false

section
variable {H : Type} {enc : TypeId × Value → H} {w : World} {base : Nat} {spare : Nat → Bool} {held : Bool}
theorem insS_of_trod {fuel : Nat} {cs : List Value} {x : DataW H × List MemPlace} (h : DataW.trod enc Try.prog w base spare held fuel 25 cs = some x) : ∃ (s : Sv) (l : List Int), cs = [.slice s.a s.n s.c] ∧ InsS w s l := by
  rcases open_ints (k := .i64) (e := 3) (by kernel_rfl) u3 (by kernel_rfl) h with ⟨hcs, _⟩ | ⟨a, l, c, zs, hcs, _, hl, hm, hz, _, hcell, hwz⟩
  · exact ⟨Sv.nil, [], hcs, InsS.nil w⟩
  · exact ⟨⟨some a, l, c⟩, _, hcs, ins_open hl hm (by rw [hz]; show l ≤ _; split <;> omega) hcell hwz, fun e => by cases e⟩
theorem bs_open2 {w : World} {x : Addr} {n c : Nat} {zs : List Int} (hl : n ≤ c) (hm : c ≤ maxLen) (hz : n ≤ zs.length) (hcell : ∀ i, i < zs.length → w.cell? (x.add i) = some (.int .u8 (zs.getD i 0))) (hwz : ∀ k ∈ zs, (Lit.int .u8 k).wf = true) :
    Bs w (some x) n c (zs.take n) := by
  refine ⟨by simp; omega, hl, hm, (fun h => by cases h), fun k hk => ?_, fun hn => ?_⟩
  · have := bounds_u8 (hwz k (List.mem_of_mem_take hk)); omega
  · obtain ⟨b, o, spot⟩ := x
    have h0 := hcell 0 (by omega)
    have hspot : spot = none := by simpa [Addr.add] using World.cell?_spot h0
    subst hspot
    refine ⟨b, o, rfl, fun i hi => ?_⟩
    have := hcell i (by omega)
    rw [Addr.add_lit] at this
    rw [this, List.getD_eq_getElem?_getD, List.getD_eq_getElem?_getD, List.getElem?_take, if_pos hi]
theorem bsS_of_trod {fuel : Nat} {cs : List Value} {x : DataW H × List MemPlace} (h : DataW.trod enc Try.prog w base spare held fuel 24 cs = some x) : ∃ (s : Sv) (l : List Int), cs = [.slice s.a s.n s.c] ∧ BsS w s l := by
  rcases open_ints (k := .u8) (e := 5) (by kernel_rfl) (by kernel_rfl) (by kernel_rfl) h with ⟨hcs, _⟩ | ⟨x, l, c, zs, hcs, _, hl, hm, hz, _, hcell, hwz⟩
  · exact ⟨Sv.nil, [], hcs, bsS_nil w⟩
  · exact ⟨⟨some x, l, c⟩, _, hcs, bs_open2 hl hm (by rw [hz]; show l ≤ _; split <;> omega) hcell hwz⟩
theorem one_of {cs : List Value} {i : Nat} {v : Value} (h : (cs.drop i).take 1 = [v]) : cs[i]? = some v := by
  have : ((cs.drop i).take 1)[0]? = some v := by rw [h]; rfl
  rw [List.getElem?_take, if_pos (by omega), List.getElem?_drop] at this
  simpa using this
set_option maxRecDepth 100000 in
theorem pt_of_trod {fuel : Nat} {cs : List Value} {x : DataW H × List MemPlace} (h : DataW.trod enc Try.prog w base spare held fuel 27 cs = some x) : ∃ (p : Pt) (d n : Sv), p.cs d n = cs ∧ p.wfp ∧ BsS w d p.data ∧ InsS w n p.needs := by
  obtain ⟨fs, hfs, hf0, hf1, hf2, hf3, hf4, hf5, hf6, hf7, hf8⟩ : ∃ fs : Array Field, Try.prog.underlying 27 = some (.struct fs) ∧ (fs[0]?.map fun f => (f.offset, f.type)) = some (0, 3) ∧ (fs[1]?.map fun f => (f.offset, f.type)) = some (1, 3) ∧ (fs[2]?.map fun f => (f.offset, f.type)) = some (2, 3) ∧ (fs[3]?.map fun f => (f.offset, f.type)) = some (3, 24) ∧ (fs[4]?.map fun f => (f.offset, f.type)) = some (4, 3) ∧ (fs[5]?.map fun f => (f.offset, f.type)) = some (5, 25) ∧ (fs[6]?.map fun f => (f.offset, f.type)) = some (6, 3) ∧ (fs[7]?.map fun f => (f.offset, f.type)) = some (7, 3) ∧ (fs[8]?.map fun f => (f.offset, f.type)) = some (8, 4) :=
    ⟨_, Try.underlying27, rfl, rfl, rfl, rfl, rfl, rfl, rfl, rfl, rfl⟩
  have hsz : fs.size = 9 := by
    have e := Try.underlying27
    rw [hfs] at e; injection e with e; injection e with e; subst e; rfl
  obtain ⟨xs, m, _, _, hl, hx, hi⟩ := DataW.trod_struct hfs h
  have hl' : cs.length = 9 := hl.trans (by kernel_rfl)
  have ci : Try.prog.cellsOf 3 = 1 := by kernel_rfl
  have cb : Try.prog.cellsOf 24 = 1 := by kernel_rfl
  have cl : Try.prog.cellsOf 25 = 1 := by kernel_rfl
  have co : Try.prog.cellsOf 4 = 1 := by kernel_rfl
  have get : ∀ i o t, (fs[i]?.map fun f => (f.offset, f.type)) = some (o, t) → i < 9 → ∃ y, DataW.trod enc Try.prog w base spare held m t ((cs.drop o).take (Try.prog.cellsOf t)) = some y := fun i o t e hi4 => by
    cases ef : fs[i]? with
    | none => rw [ef] at e; cases e
    | some f =>
      rw [ef] at e
      simp only [Option.map_some, Option.some.injEq, Prod.mk.injEq] at e
      have := hi i f ef
      rw [e.1, e.2, List.getElem?_eq_getElem (by omega)] at this
      exact ⟨_, this⟩
  obtain ⟨_, g0⟩ := get 0 0 _ hf0 (by omega)
  obtain ⟨_, g1⟩ := get 1 1 _ hf1 (by omega)
  obtain ⟨_, g2⟩ := get 2 2 _ hf2 (by omega)
  obtain ⟨_, g3⟩ := get 3 3 _ hf3 (by omega)
  obtain ⟨_, g4⟩ := get 4 4 _ hf4 (by omega)
  obtain ⟨_, g5⟩ := get 5 5 _ hf5 (by omega)
  obtain ⟨_, g6⟩ := get 6 6 _ hf6 (by omega)
  obtain ⟨_, g7⟩ := get 7 7 _ hf7 (by omega)
  obtain ⟨_, g8⟩ := get 8 8 _ hf8 (by omega)
  rw [ci] at g0 g1 g2 g4 g6 g7; rw [cb] at g3; rw [cl] at g5; rw [co] at g8
  obtain ⟨x0, e0, _, w0⟩ := DataW.trod_int u3 g0
  obtain ⟨x1, e1, _, w1⟩ := DataW.trod_int u3 g1
  obtain ⟨x2, e2, _, w2⟩ := DataW.trod_int u3 g2
  obtain ⟨x3, l3, e3, w3⟩ := bsS_of_trod g3
  obtain ⟨x4, e4, _, w4⟩ := DataW.trod_int u3 g4
  obtain ⟨x5, l5, e5, w5⟩ := insS_of_trod g5
  obtain ⟨x6, e6, _, w6⟩ := DataW.trod_int u3 g6
  obtain ⟨x7, e7, _, w7⟩ := DataW.trod_int u3 g7
  obtain ⟨x8, e8, _⟩ := DataW.trod_bool (by kernel_rfl) g8
  refine ⟨⟨x0, x1, x2, l3, x4, l5, x6, x7, x8⟩, x3, x5, ?_, ⟨w0, w1, w2, w4, w6, w7⟩, w3, w5⟩
  apply List.ext_getElem?
  intro i
  match i with
  | 0 => exact (one_of e0).symm
  | 1 => exact (one_of e1).symm
  | 2 => exact (one_of e2).symm
  | 3 => exact (one_of e3).symm
  | 4 => exact (one_of e4).symm
  | 5 => exact (one_of e5).symm
  | 6 => exact (one_of e6).symm
  | 7 => exact (one_of e7).symm
  | 8 => exact (one_of e8).symm
  | i + 9 => rw [List.getElem?_eq_none (by simp [Pt.cs]), List.getElem?_eq_none (by omega)]
end
end Go.Proofs.Yteceapdkgidenaa
namespace Go.Proofs.Yteceapdkgidenaa
open Go.ChangeShapes Go.WideShapes Go.ChangeAt Go.RowKit
set_option linter.unusedVariables false
set_option linter.unusedSimpArgs false

/-- A list of patches of one's own, with what they hold, made since w. -/
structure FwI (w wr : World) (v : Value) (L : List Pe) : Prop where
  pu : PuI w wr v L
  ms : ∀ t ∈ L, PtM wr (fun x => w.heap.size ≤ x ∧ x < wr.heap.size ∧ v.ownBlock ≠ some x) t.p t.d t.n
  wf : ∀ t ∈ L, t.p.wfp
theorem FwI.later {w wr w' : World} {v : Value} {L : List Pe} (h : FwI w wr v L) (k : Below wr.heap.size wr w') : FwI w w' v L :=
  ⟨h.pu.later k, fun t ht => ((h.ms t ht).later k).mono (fun x hx => ⟨hx.1, Nat.lt_of_lt_of_le hx.2.1 k.size, hx.2.2⟩), h.wf⟩
theorem FwI.app {w wr w1 w2 w' : World} {v v' : Value} {l : List Pe} {t : Pe} (h : FwI w wr v l) (b1 : Below wr.heap.size wr w1) (b2 : Below w1.heap.size w1 w2) (hw : t.p.wfp) (hm : PtM w1 (Made wr w1) t.p t.d t.n) (hA : Apd w2 w.heap.size 27 9 v l.length 1 (fl l ++ t.cs) v' w') : FwI w w' v' (l ++ [t]) := by
  have hP := h.pu.app (bnext b1 b2 (Nat.le_refl _)) hA
  obtain ⟨h1, h2, h3, h4, h5⟩ := hA
  have hs1 := b1.size
  have hs2 := b2.size
  have hs4 := h4.size
  have hwr := h.pu.b.size
  have new : ∀ x, x < w2.heap.size → v.ownBlock ≠ some x → v'.ownBlock ≠ some x := fun x hx hv e => by
    rcases h3 with h3 | ⟨h3, _⟩
    · exact hv (by rw [← h3]; exact e)
    · rw [h3] at e; injection e with e; omega
  refine ⟨hP, fun u hu => ?_, fun u hu => ?_⟩
  · rcases List.mem_append.1 hu with hu | hu
    · refine (((h.ms u hu).later (bnext b1 b2 (Nat.le_refl _))).step h4 (fun x hx e => hx.2.2 e)).mono fun x hx => ⟨hx.1, by omega, new x (by omega) hx.2.2⟩
    · rw [List.mem_singleton] at hu; subst hu
      have hv : ∀ x, Made wr w1 x → v.ownBlock ≠ some x := fun x hx e => by have := h.pu.ow.lt e; have := hx.1; omega
      refine ((hm.later b2).step h4 (fun x hx e => hv x hx e)).mono fun x hx => ⟨by have := hx.1; omega, by have := hx.2; omega, new x (by have := hx.2; omega) (hv x hx)⟩
  · rcases List.mem_append.1 hu with hu | hu
    · exact h.wf u hu
    · rw [List.mem_singleton] at hu; subst hu; exact hw
theorem FwI.made (w wr : World) (b : Below w.heap.size w wr) : FwI w (wr.alloc (.cells #[] 27)) (.slice (some ⟨wr.heap.size, 0, none⟩) 0 0) [] := ⟨PuI.made w wr b, (fun t ht => by cases ht), (fun t ht => by cases ht)⟩
/-- .. as a slice that is read. -/
theorem FwI.ps {w wr : World} {v : Value} {L : List Pe} (h : FwI w wr v L) : ∃ s : Sv, v = .slice s.a s.n s.c ∧ s.n = L.length ∧ Ps wr (Made w wr) s L := by
  have hM : ∀ t ∈ L, PtM wr (Made w wr) t.p t.d t.n := fun t ht => (h.ms t ht).mono fun x hx => ⟨hx.1, hx.2.1⟩
  have how := h.pu.ow
  have hnw := h.pu.nw
  rcases h.pu.ow.2 with ⟨e1, e2⟩ | ⟨g, cap, cur, e1, _, e3, e4, e5, e6, e7⟩
  · obtain rfl : L = [] := List.eq_nil_of_length_eq_zero e2
    exact ⟨Sv.nil, e1, rfl, Ps.nilS _ _⟩
  · subst e1
    refine ⟨⟨some ⟨g, 0, none⟩, L.length, cap⟩, rfl, rfl, rfl, e4, e5, (fun e => by cases e), fun hn => ⟨g, 0, rfl, ⟨hnw g rfl, how.lt rfl⟩, fun i t ht => ?_⟩, h.wf, hM⟩
    have hi := (List.getElem?_eq_some_iff.1 ht).1
    obtain ⟨b, t', h1, h2, h3⟩ := how.el i hi
    injection h1 with h1; injection h1 with h1; subst h1
    rw [ht] at h2; injection h2 with h2; subst h2
    rw [Nat.zero_add]; exact h3
theorem fewP_wf {p : Pt} (h : p.wfp) : (fewP p).wfp := ⟨h.i, h.s, h.o, h.k, h.w, h.c⟩
/-- The patches that few leaves. -/
def fewL (l : List Pt) : List Pt := (l.take 20).map fewP
set_option maxRecDepth 100000 in
set_option maxHeartbeats 4000000 in
theorem few15_any {w : World} {E : Nat → Prop} {s : Sv} {L : List Pe} (H : Ps w E s L) :
    Calls Try.prog 16 #[.slice s.a s.n s.c] w fun e w' => ∃ v L', e = .returned v ∧ FwI w w' v L' ∧ pts L' = fewL (pts L) := by
  have hcap : s.n ≤ 9223372036854775807 := by have := H.le; have := H.cap; unfold maxLen at this; omega
  have hlen := H.len
  obtain ⟨sa, sn, sc⟩ := s
  simp only at hcap hlen
  subst hlen
  have hlp : (pts L).length = L.length := by unfold pts; simp
  have start := FwI.made w w (Below.refl _ _)
  go_enter Try.func16, Try.ntmps16
  go_wp2_with fail
  generalize w.alloc (.cells #[] 27) = w0 at *
  generalize hv0 : Value.slice (some ⟨w.heap.size, 0, none⟩) 0 0 = v0 at *
  go_loopw [3, 4] (fun v i wr => ∃ (k : Nat) (L' : List Pe), k ≤ L.length ∧ k ≤ 20 ∧ i = .int .i64 (k : Int) ∧ FwI w wr v L' ∧ pts L' = ((pts L).take k).map fewP) (fun _ i _ => L.length - (intOf i).toNat)
  case atStart => exact ⟨0, [], Nat.zero_le _, Nat.zero_le _, rfl, start, rfl⟩
  case round =>
    clear start hv0
    obtain ⟨k, L', hk, hk2, rfl, I, hL⟩ := hrel
    have hll : L'.length = k := by have := congrArg List.length hL; unfold pts at this hlp; simp at this; omega
    obtain ⟨xa, xc, rfl, _, hx0⟩ := I.pu.ow.shape
    rw [hll] at I hx0 ⊢
    have hstop : (20 ≤ k ∨ L.length ≤ k) → pts L' = fewL (pts L) := fun h => by
      rw [hL]; unfold fewL
      rcases h with h | h
      · rw [show k = 20 by omega]
      · rw [List.take_of_length_le (by omega), List.take_of_length_le (by omega)]
    by_cases hkl : k < L.length
    · have a9 : (k : Int) < (L.length : Int) := by omega
      by_cases h20 : k < 20
      · have a8 : (k : Int) < 20 := by omega
        have Hr := H.later (w' := wr) I.pu.b
        obtain ⟨bb, o, e0, hbE, hcell⟩ := Hr.cell (by simpa using (by omega : 0 < L.length))
        simp only at e0
        subst e0
        obtain ⟨T, hT⟩ : ∃ T, L[k]? = some T := ⟨L[k], List.getElem?_eq_getElem hkl⟩
        have hrg := hcell k T hT
        have hmem := List.mem_of_getElem? hT
        have hwf := H.wf T hmem
        have hPM := Hr.ms T hmem
        have HF := few_any T.p T.d T.n hPM.bs hPM.is
        have hbig : L'.length + 1 ≤ 1000000 := by omega
        clear hcell hbE hPM hstop
        have t1 : True := trivial
        have t2 : True := trivial
        go_wp2_with (first
          | (clear t1; refine at_getE _ (by rfl) (by rfl) bb (o + k * 9) (by rfl) T hrg ?_)
          | (go_at_call 8; refine HF.mono ?_; rintro e w1 ⟨d', n', rfl, m1, b1, -, -, -⟩)
          | (clear t2; refine at_bsP _ (by rfl) (by rfl) (⟨fewP T.p, d', n'⟩ : Pe) (by rfl) ?_
             have b2 : Below w1.heap.size w1 (w1.alloc (.cells (⟨fewP T.p, d', n'⟩ : Pe).cs.toArray 27)) := (Below.refl _ w1).alloc (Nat.le_refl _) _
             have hnew := cell_new9 w1 (⟨fewP T.p, d', n'⟩ : Pe) 27)
          | (at_builtin; refine at_appR elP w.heap.size rfl _ _ (by rfl) (by rfl) (ro_later (ro_later I.pu.ow b1) b2) I.pu.nw (some ⟨w1.heap.size, 0, none⟩) 1 (⟨fewP T.p, d', n'⟩ : Pe).cs (by rfl) (by rfl) (fun e => by cases e) (fun ad e => by injection e with e; subst e; exact hnew) (Pe.cs_one _) hbig (Nat.le_trans I.pu.b.size (Nat.le_trans b1.size b2.size)) ?_; intro v' w9 hA; have I9 := I.app b1 b2 (fewP_wf hwf) m1 hA; clear hA))
        refine ⟨⟨k + 1, _, by omega, by omega, by go_num, I9, ?_⟩, by simp [intOf]; omega⟩
        have hg : (pts L)[k]? = some T.p := by unfold pts; rw [List.getElem?_map, hT]; rfl
        rw [List.take_add_one, hg, List.map_append, ← hL]
        unfold pts; simp
      · have a8 : ¬ (k : Int) < 20 := by omega
        have hst := hstop (.inl (by omega))
        go_wp2_with fail
        go_returns
        exact ⟨_, rfl, L', I, hst⟩
    · have a9 : ¬ (k : Int) < (L.length : Int) := by omega
      have hst := hstop (.inr (by omega))
      go_wp2_with fail
      go_returns
      exact ⟨_, rfl, L', I, hst⟩
section
variable {H : Type} {enc : TypeId × Value → H} {w : World} {base : Nat} {spare : Nat → Bool} {held : Bool}
theorem pts_of_trod {fuel : Nat} {cs : List Value} {x : DataW H × List MemPlace} (h : DataW.trod enc Try.prog w base spare held fuel 39 cs = some x) : ∃ a n c L, cs = [.slice a n c] ∧ Ps w (fun x => x < w.heap.size) ⟨a, n, c⟩ L := by
  have inE : ∀ (s : Sv) (l : List Int), BsS w s l → InE (fun x => x < w.heap.size) s := fun s l hs ad e hn => by
    obtain ⟨b, o, e2, hc⟩ := hs.cell hn
    rw [e] at e2; injection e2 with e2; subst e2
    exact World.block_lt_of_cell? w _ (hc 0 hn)
  have inI : ∀ (s : Sv) (l : List Int), InsS w s l → InE (fun x => x < w.heap.size) s := fun s l hs ad e hn => by
    obtain ⟨b, o, e2, hc⟩ := hs.i.cell hn
    rw [e] at e2; injection e2 with e2; subst e2
    exact World.block_lt_of_cell? w _ (hc 0 hn)
  rcases Deep.open_slice (e := 27) (by kernel_rfl) h with ⟨hcs, _⟩ | ⟨a, len, cap, m, n, D, Pl, hcs, _, hl, hm, hmm, _, hx⟩
  · exact ⟨none, 0, 0, [], hcs, Ps.nilS _ _⟩
  · have c9 : Try.prog.cellsOf 27 = 9 := by kernel_rfl
    have hlm : len ≤ m := by rw [hmm]; split <;> omega
    have each : ∀ i, i < len → ∃ y : Pe, (∀ j v, y.cs[j]? = some v → w.cell? (a.add (i * 9 + j)) = some v) ∧ y.p.wfp ∧ BsS w y.d y.p.data ∧ InsS w y.n y.p.needs := fun i hi => by
      obtain ⟨cs', h1, h2⟩ := hx i (by omega)
      rw [c9] at h1
      obtain ⟨p, d, n, e1, e2, e3, e4⟩ := pt_of_trod h2
      obtain ⟨_, hlen, hcell⟩ := World.cells?_some h1
      refine ⟨⟨p, d, n⟩, fun j v hv => ?_, e2, e3, e4⟩
      have hj : j < 9 := by have := (List.getElem?_eq_some_iff.1 hv).1; rw [Pe.cs_len] at this; exact this
      have := hcell j hj
      have e1' : (⟨p, d, n⟩ : Pe).cs = cs' := e1
      rw [Deep.add_add, ← e1', hv] at this
      exact this
    have hspec : ∀ t ∈ ((List.range len).map fun i => if hi : i < len then Classical.choose (each i hi) else Pe.zero), t.p.wfp ∧ BsS w t.d t.p.data ∧ InsS w t.n t.p.needs := fun t ht => by
      obtain ⟨i, hi, rfl⟩ := List.mem_map.1 ht
      have hi' : i < len := by simpa using hi
      simp only [dif_pos hi']
      exact (Classical.choose_spec (each i hi')).2
    refine ⟨_, _, _, (List.range len).map fun i => if hi : i < len then Classical.choose (each i hi) else Pe.zero, hcs, by simp, hl, hm, (fun e => by cases e), fun hn => ?_, fun t ht => (hspec t ht).1, fun t ht => ⟨(hspec t ht).2.1, (hspec t ht).2.2, inE _ _ (hspec t ht).2.1, inI _ _ (hspec t ht).2.2⟩⟩
    obtain ⟨b, o, spot⟩ := a
    have h00 : w.cell? ((⟨b, o, spot⟩ : Addr).add (0 * 9 + 0)) ≠ none := by
      obtain ⟨y, hy, _⟩ := each 0 hn
      rw [hy 0 (.int .i64 y.p.id) rfl]; simp
    have hspot : spot = none := by
      obtain ⟨y, hy, _⟩ := each 0 hn
      have := hy 0 (.int .i64 y.p.id) rfl
      simpa [Addr.add] using World.cell?_spot this
    subst hspot
    have hblt : b < w.heap.size := by
      obtain ⟨y, hy, _⟩ := each 0 hn
      have := hy 0 (.int .i64 y.p.id) rfl
      exact World.block_lt_of_cell? w _ this
    refine ⟨b, o, rfl, hblt, fun i t ht => ?_⟩
    have hi : i < len := by have := (List.getElem?_eq_some_iff.1 ht).1; simpa using this
    rw [List.getElem?_map, List.getElem?_range hi] at ht
    simp only [Option.map_some, dif_pos hi, Option.some.injEq] at ht
    subst ht
    intro j v hv
    have := (Classical.choose_spec (each i hi)).1 j v hv
    rw [Addr.add_mid] at this
    rw [show o + i * 9 + j = o + (i * 9 + j) by omega]; exact this
end
end Go.Proofs.Yteceapdkgidenaa
