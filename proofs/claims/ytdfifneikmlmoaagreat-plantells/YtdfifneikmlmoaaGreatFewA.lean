/-
  What Few of the statements of layer 14 returns: no statement is proved here.
-/
import Derived.Test.YtdfifneikmlmoaaGreatOwG
import Derived.Lib.Walk
namespace Go.Proofs.YtdfifneikmlmoaaGreat
open Go.ChangeShapes Go.WideShapes Go.ChangeAt Go.RowKit
set_option linter.unusedVariables false
set_option linter.unusedSimpArgs false

/-- A patch with not too many bytes and needs. -/
def fewP (p : Pt) : Pt := { p with data := p.data.take 70, needs := p.needs.take 6 }
theorem take_cut (l : List Int) (k : Nat) : l.take (min l.length k) = l.take k := by
  by_cases h : l.length ≤ k
  · rw [Nat.min_eq_left h, List.take_length, List.take_of_length_le h]
  · rw [Nat.min_eq_right (by omega)]
theorem BsS.cut {w : World} {s : Sv} {l : List Int} (h : BsS w s l) (k : Nat) : BsS w ⟨s.a, min s.n k, s.c⟩ (l.take k) := by
  have := Bs.take h (min s.n k) (Nat.min_le_left _ _)
  have e := h.len
  rw [← e, take_cut] at this
  rw [← e]; exact this
theorem InsS.cut {w : World} {s : Sv} {l : List Int} (h : InsS w s l) (k : Nat) : InsS w ⟨s.a, min s.n k, s.c⟩ (l.take k) := by
  have hl := h.i.len
  refine ⟨⟨by simp only [List.length_take]; omega, Nat.le_trans (Nat.min_le_left _ _) h.i.le, h.i.cap, fun x hx => h.i.wf x (List.mem_of_mem_take hx), fun hn => ?_⟩, h.nl⟩
  simp only at hn
  obtain ⟨b, o, e, hc⟩ := h.i.cell (by omega)
  refine ⟨b, o, e, fun i hi => ?_⟩
  simp only at hi
  rw [hc i (by omega), List.getD_eq_getElem?_getD, List.getD_eq_getElem?_getD, List.getElem?_take, if_pos (by omega)]
set_option maxRecDepth 100000 in
set_option maxHeartbeats 2000000 in
theorem ints_own {w : World} {s : Sv} {l : List Int} (h : InsS w s l) (hl : l.length ≤ 100000) :
    Calls Tryz.prog 7 #[.slice s.a s.n s.c] w fun e w' => ∃ s' : Sv, e = .returned (.slice s'.a s'.n s'.c) ∧ InsS w' s' l ∧ InE (fun x => w.heap.size ≤ x ∧ x < w'.heap.size) s' ∧ Below w.heap.size w w' ∧ OwV w' (.slice s'.a s'.n s'.c) l ∧ New w.heap.size (.slice s'.a s'.n s'.c) := by
  have hlen : l.length = s.n := h.i.len
  have hcs := h.cells
  have qnB : ∀ (w : World) (a : Option Addr) (n c n' c' : Nat), (binOp .eql 52 (.slice a n c) (.slice none n' c')).run Tryz.prog w = .ok (.bool a.isNone) w := fun w a n c n' c' => Lib.run_eql_slice_nil w _ _ a n c n' c' elB.und
  have qnI : ∀ (w : World) (a : Option Addr) (n c n' c' : Nat), (binOp .eql 23 (.slice a n c) (.slice none n' c')).run Tryz.prog w = .ok (.bool a.isNone) w := fun w a n c n' c' => Lib.run_eql_slice_nil w _ _ a n c n' c' elI.und
  have hz := h.zero
  have hby := h.i.wf
  obtain ⟨sa, sn, sc⟩ := s
  simp only at hlen hcs hz ⊢
  subst hlen
  have fin : ∀ v' w', Apd (w.alloc (.cells #[] 3)) w.heap.size 3 1 (.slice (some ⟨w.heap.size, 0, none⟩) 0 0) 0 l.length ([] ++ l.map (Value.int .i64)) v' w' →
      ∃ s' : Sv, Ending.returned v' = .returned (.slice s'.a s'.n s'.c) ∧ InsS w' s' l ∧ InE (fun x => w.heap.size ≤ x ∧ x < w'.heap.size) s' ∧ Below w.heap.size w w' ∧ OwV w' (.slice s'.a s'.n s'.c) l ∧ New w.heap.size (.slice s'.a s'.n s'.c) := by
    intro v' w' hA
    obtain ⟨h1, h2, h3, h4, h5⟩ := hA
    rw [Nat.zero_add, List.nil_append] at h1
    obtain ⟨s', rfl, e2, e3, e4⟩ := ro_ins h1 hby h2
    refine ⟨s', rfl, e3, e4, ?_, h1, h2⟩
    have k0 : Stp (fun _ => False) w (w.alloc (.cells #[] 3)) := Stp.of_alloc _ _ _
    exact (k0.next h4 (F' := fun x => some w.heap.size = some x) (fun x e => .inr (by injection e with e; omega))).below (Nat.le_refl _) (fun x e => e.elim)
  have q0 : (w.alloc (.cells #[] 3)).ownsRow 0 3 1 (.slice (some ⟨w.heap.size, 0, none⟩) 0 0) 0 [] := World.ownsRow_made w #[] 0 (Nat.zero_le _) (Nat.zero_le _) rfl
  have hN : New w.heap.size (.slice (some ⟨w.heap.size, 0, none⟩) 0 0) := fun r e => by
    have : w.heap.size = r := by simpa [Value.ownBlock] using e
    omega
  have hcs' : ∀ ad, sa = some ad → ∀ j u, (l.map (Value.int .i64))[j]? = some u → (w.alloc (.cells #[] 3)).cell? (ad.add j) = some u := fun ad e j u hu => by
    have := hcs ad e j u hu
    rw [((Below.refl _ w).alloc (Nat.le_refl _) (.cells #[] 3)).cell (World.block_lt_of_cell? w _ this)]; exact this
  cases sa with
  | none =>
    obtain ⟨z1, z2, rfl⟩ := hz rfl
    subst z2
    simp only [List.length_nil] at fin hcs' ⊢
    go_enter Tryz.func7, Tryz.ntmps7
    go_wp2_with (first
      | (refine at_appR elI w.heap.size rfl _ _ (by rfl) (by rfl) q0 hN none 0 [] (by rfl) (by simp) (fun e => ⟨rfl, rfl⟩) (fun ad e => by cases e) (fun u hu => by cases hu) (by omega) (by simp) ?_; intro v' w' hA; obtain ⟨s', e1, e2⟩ := fin v' w' hA; injection e1 with e1; subst e1))
    go_returns
    exact ⟨s', rfl, e2⟩
  | some ad =>
    go_enter Tryz.func7, Tryz.ntmps7
    go_wp2_with (first
      | (refine at_appR elI w.heap.size rfl _ _ (by rfl) (by rfl) q0 hN (some ad) sc (l.map (Value.int .i64)) (by rfl) (by simp) (fun e => by cases e) hcs' (fun u hu => by obtain ⟨x, _, rfl⟩ := List.mem_map.1 hu; rfl) (by omega) (by simp) ?_; intro v' w' hA; obtain ⟨s', e1, e2⟩ := fin v' w' hA; injection e1 with e1; subst e1))
    go_returns
    exact ⟨s', rfl, e2⟩
set_option maxRecDepth 100000 in
set_option maxHeartbeats 4000000 in
theorem few_any {w : World} (p : Pt) (d n : Sv) (hb : BsS w d p.data) (hi : InsS w n p.needs) :
    Calls Tryz.prog 22 #[.agg (p.cs d n).toArray] w fun e w' => ∃ d' n' : Sv, e = .returned (.agg ((fewP p).cs d' n').toArray) ∧ PtM w' (Made w w') (fewP p) d' n' ∧ Below w.heap.size w w' ∧ OwV w' (.slice n'.a n'.n n'.c) (fewP p).needs ∧ New w.heap.size (.slice n'.a n'.n n'.c) ∧ (∀ r, (Value.slice n'.a n'.n n'.c).ownBlock = some r → InE (fun y => y ≠ r) d') := by
  have t1 : True := trivial
  have t2 : True := trivial
  have t3 : True := trivial
  have t4 : True := trivial
  have ld : d.n ≤ maxLen := Nat.le_trans hb.le hb.cap
  have ln : n.n ≤ maxLen := Nat.le_trans hi.i.le hi.i.cap
  have le1 := hb.le
  have le2 := hi.i.le
  have em1 : (min (d.n : Int) 70) = ((min d.n 70 : Nat) : Int) := by omega
  have em2 : (min (n.n : Int) 6) = ((min n.n 6 : Nat) : Int) := by omega
  go_enter Tryz.func22, Tryz.ntmps22
  go_wp2_with (first
    | (clear t1; refine at_boxP (by rfl) _ (by rfl) p d n (by rfl) ?_; intro g1 w1 a1 a2 r1 b1)
    | (clear t2; refine at_newP (by rfl) (by rfl) ?_; intro g2 w2 a3 a4 r2 b2
       have r12 := r1.later b2
       have c3 := (Pt.cells r12).2.2.2.1
       have B2 := bnext b1 b2 (Nat.le_refl _))
    | (go_at_call 44; refine (gbytes_any ((hb.later B2).cut 70) (by simp; omega)).mono ?_; rintro e w3 ⟨d', rfl, q1, q2, q3⟩
       clear c3
       have r13 := r12.later q3
       have c3 := (Pt.cells r13).2.2.2.1
       have c5 := (Pt.cells r13).2.2.2.2.2.1
       have f3 := r13.frozen 3
       have r4 : Cs (w3.setCell ⟨g1, 3, none⟩ (.slice d'.a d'.n d'.c)) g1 (({ p with data := p.data.take 70 } : Pt).cs d' n) := r13.set 3 (.slice d'.a d'.n d'.c) rfl
       have s4 : Stp (fun x => x = g1) w3 (w3.setCell ⟨g1, 3, none⟩ (.slice d'.a d'.n d'.c)) := (Stp.refl (fun x => x = g1) w3).setCell (p := ⟨g1, 3, none⟩) (.inl rfl) _
       have B4 : Below w.heap.size w (w3.setCell ⟨g1, 3, none⟩ (.slice d'.a d'.n d'.c)) := ((Stp.of_below (bnext B2 q3 (Nat.le_refl _)) (fun _ => False)).next s4 (fun x e => .inr (by omega))).below (Nat.le_refl _) (fun x e => e.elim)
       have r24 := (r2.later q3).step s4 (by omega)
       have q14 := q1.step s4 q2 (fun x hx e => by have := hx.1; omega))
    | (go_at_call 7; refine (ints_own ((hi.later B4).cut 6) (by simp; omega)).mono ?_; rintro e w5 ⟨n', rfl, q5, q6, q7, q8, q9⟩
       clear c3 c5 f3
       have r15 := r4.later q7
       have c5 := (Pt.cells r15).2.2.2.2.2.1
       have f5 := r15.frozen 5
       have r6 : Cs (w5.setCell ⟨g1, 5, none⟩ (.slice n'.a n'.n n'.c)) g1 ((fewP p).cs d' n') := r15.set 5 (.slice n'.a n'.n n'.c) rfl
       have s6 : Stp (fun x => x = g1) w5 (w5.setCell ⟨g1, 5, none⟩ (.slice n'.a n'.n n'.c)) := (Stp.refl (fun x => x = g1) w5).setCell (p := ⟨g1, 5, none⟩) (.inl rfl) _
       have B6 : Below w.heap.size w (w5.setCell ⟨g1, 5, none⟩ (.slice n'.a n'.n n'.c)) := ((Stp.of_below (bnext B4 q7 (Nat.le_refl _)) (fun _ => False)).next s6 (fun x e => .inr (by omega))).below (Nat.le_refl _) (fun x e => e.elim)
       have e4 : (w3.setCell ⟨g1, 3, none⟩ (.slice d'.a d'.n d'.c)).heap.size = w3.heap.size := by simp
       have z3 := q3.size
       have r26 := (r24.later q7).step s6 (by omega)
       have q16 := (q14.later q7).step s6 q2 (fun x hx e => by have := hx.1; omega)
       have q56 := q5.step s6 q6 (fun x hx e => by have := hx.1; omega)
       have q86 := q8.step s6 (fun r hr e => by have := q9 r hr; omega))
    | (clear t3; refine at_getP0 (by rfl) _ (by rfl) g1 (by rfl) (fewP p) d' n' r6 ?_)
    | (clear t4; refine at_putP (by rfl) _ _ (by rfl) g2 (by rfl) (fewP p) d' n' (by rfl) _ r26 rfl ?_; intro w7 r7 s7))
  have z7 := s7.size
  have z6 : (w5.setCell ⟨g1, 5, none⟩ (.slice n'.a n'.n n'.c)).heap.size = w5.heap.size := by simp
  have zq := q7.size
  have zB := B2.size
  refine bodyPost_ret (retC srtP rfl rfl r7 rfl) rfl ⟨d', n', rfl, ⟨q16.step s7 q2 (fun x hx e => by have := hx.1; omega), q56.step s7 q6 (fun x hx e => by have := hx.1; omega), q2.mono (fun x hx => ⟨by omega, by omega⟩), q6.mono (fun x hx => ⟨by omega, by omega⟩)⟩, ?_, q86.step s7 (fun r hr e => by have := q9 r hr; omega), fun r hr => by have := q9 r hr; omega, fun r hr => q2.mono (fun y hy e => by have := q9 r hr; have := hy.2; omega)⟩
  exact ((Stp.of_below B6 (fun _ => False)).next s7 (fun x e => .inr (by have := b1.size; omega))).below (Nat.le_refl _) (fun x e => e.elim)
end Go.Proofs.YtdfifneikmlmoaaGreat
