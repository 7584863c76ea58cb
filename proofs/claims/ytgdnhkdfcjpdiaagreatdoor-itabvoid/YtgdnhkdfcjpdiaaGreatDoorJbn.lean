/-
  Texts of my own, joined: no statement is proved here.
-/
import Derived.Shelf.SlIterI.Sorted
import Derived.Shelf.SlIterI.Keys
import Derived.Deep.DeepCutAuto
import Derived.Lib.Walk
import Derived.Deep.RegionLaw
import Derived.Test.YtgdnhkdfcjpdiaaGreatDoorRows
import Derived.OpenShut
import Derived.Test.YtgdnhkdfcjpdiaaGreatDoorJbk
import Derived.Test.YtgdnhkdfcjpdiaaGreatDoorJbm
set_option linter.unusedSimpArgs false
set_option linter.unusedVariables false
namespace Go.Proofs.YtgdnhkdfcjpdiaaGreatDoor
open Go.ChangeShapes Go.WideShapes Go.ChangeAt Go.RowKit
set_option maxRecDepth 100000
structure Rn (w : World) (g : Nat) (x : WS) (q : Nat) : Prop where
  c : Cs w g [.pointer (some ⟨q, 0, none⟩), .int .u32 x.a, .int .u32 x.b, .int .u32 x.c]
  l0 : x.a < 4294967296
  l1 : x.b < 4294967296
  l2 : x.c < 4294967296
theorem Rn.step {w w' : World} {g q : Nat} {x : WS} {F : Nat → Prop} (h : Rn w g x q) (k : Stp F w w') (hg : ¬ F g) : Rn w' g x q := ⟨h.c.step k hg, h.l0, h.l1, h.l2⟩
theorem Rn.later {w w' : World} {g q : Nat} {x : WS} (h : Rn w g x q) (k : Below w.heap.size w w') : Rn w' g x q := h.step (Stp.of_below k (fun _ => False)) id
set_option maxHeartbeats 2000000 in
theorem rnnew_any (q : Nat) (w : World) :
    Calls Tryz.prog 25 #[.pointer (some ⟨q, 0, none⟩)] w fun e w' => ∃ g, e = .returned (.pointer (some ⟨g, 0, none⟩)) ∧ w.heap.size ≤ g ∧ Rn w' g ⟨0, 0, 0⟩ q ∧ Below w.heap.size w w' := by
  go_enter Tryz.func25, Tryz.ntmps25
  go_wp2_with (first
    | (refine op_val (by rfl) (.agg #[.pointer (some ⟨q, 0, none⟩), .int .u32 0, .int .u32 0, .int .u32 0]) _ (by kernel_rfl) ?_)
    | (refine at_boxC 130 (by rfl) _ (by rfl) [.pointer (some ⟨q, 0, none⟩), .int .u32 0, .int .u32 0, .int .u32 0] (by rfl) (by intro v hv; simp at hv; rcases hv with rfl | rfl <;> rfl) ?_; intro g3 w3 a3 z3 r3 b3))
  go_returns
  exact ⟨_, rfl, a3, ⟨r3, by decide, by decide, by decide⟩, b3⟩
set_option maxHeartbeats 2000000 in
theorem rnsum_any (a b : Nat) (w : World) (ha : a < 4294967296) (hb : b < 4294967296) :
    Calls Tryz.prog 77 #[.int .u32 (a : Int), .int .u32 (b : Int)] w fun e w' => e = .returned (.int .u32 (sm a b : Nat)) ∧ Below w.heap.size w w' := by
  have t1 : Hid True := trivial
  have hS : Hid (ints (u4 a ++ u4 b) = by4 a ++ by4 b) := by
    show _ = _
    rw [ints_append, ints_u4 ha, ints_u4 hb]; rfl
  go_enter Tryz.func77, Tryz.ntmps77
  go_wp2_with (first
    | (go_at_call 59; clear t1; refine (rput32_any (a : Int) w (by omega) (by omega)).mono ?_; rintro e w5 ⟨rfl, rfl⟩
       have o1 : Own w.heap.size _ w.heap.size 4 (u4 a) := Own.of w (u4 a) _ (cells_u4 ha) (Nat.le_refl _) (by simp [u4])
       have B1 := (Below.refl w.heap.size w).alloc (Nat.le_refl _) (Obj.cells #[.int .u8 ((a : Int) % 256), .int .u8 ((a : Int) / 256 % 256), .int .u8 ((a : Int) / 65536 % 256), .int .u8 ((a : Int) / 16777216)] 5)
       generalize (w.alloc (Obj.cells #[.int .u8 ((a : Int) % 256), .int .u8 ((a : Int) / 256 % 256), .int .u8 ((a : Int) / 65536 % 256), .int .u8 ((a : Int) / 16777216)] 5)) = w1 at *)
    | (go_at_call 59; refine (rput32_any (b : Int) w1 (by omega) (by omega)).mono ?_; rintro e w5 ⟨rfl, rfl⟩)
    | (at_builtin; refine at_app (B := w.heap.size) rfl _ _ rfl 4 rfl (o1.later ((Below.refl _ w1).alloc (Nat.le_refl _) _)) rfl ⟨w1.heap.size, 0, none⟩ 4 4 (u4 b) rfl rfl 8 rfl (news_row w1 _ 5 _ (cells_u4 hb)) (by simp [u4]) (by have := B1.size; simp; omega) ?_
       intro g6 c6 w6 o6 s6; have d6 := o6.bs; rw [hS.out] at d6)
    | (go_at_call 60; refine (rof_anyK _ 8 c6 _ w6 d6).mono ?_; rintro e w7 ⟨rfl, rfl⟩))
  go_returns
  exact ⟨rfl, ((Stp.of_below B1 (fun x => w.heap.size ≤ x)).alloc _ |>.trans s6).below (Nat.le_refl _) (fun _ h => h)⟩
def WS.setI (x : WS) (i v : Nat) : WS := if i = 0 then { x with a := v } else if i = 1 then { x with b := v } else { x with c := v }
set_option maxHeartbeats 4000000 in
theorem rnput_any {w : World} {g q : Nat} {x : WS} {p : PS} {k : Nat} (h : Rn w g x q) (hr : Rw w q (ref p)) (ho : okAt p k) (hk : k ≤ 1000000) (hq : g ≠ q) (i v : Nat) (hi : i < 3) (hv : v < 4294967296) :
    Calls Tryz.prog 76 #[.pointer (some ⟨g, 0, none⟩), .int .i64 (i : Int), .int .u32 (v : Int)] w fun e w' => e = .returned (.int .i64 p.useErr) ∧ Rn w' g (if p.useErr = 0 then x.setI i v else x) q ∧ Rw w' q (ref p.use) ∧ Stp (fun y => y = g ∨ y = q) w w' := by
  have hU := ruse_any q (ref p) w hr (by unfold okAt at ho; unfold RS.ok ref; simp only; split <;> omega)
  rw [ref_err ho, ref_use ho] at hU
  have c0 := h.c.cell 0 _ rfl
  obtain ⟨e0, he0⟩ : ∃ e, Hid (p.useErr = e) := ⟨_, rfl⟩
  rw [he0.out] at hU ⊢
  by_cases h0 : e0 = 0
  · subst h0
    rw [if_pos rfl]
    obtain rfl | rfl | rfl : i = 0 ∨ i = 1 ∨ i = 2 := by omega
    all_goals
      go_enter Tryz.func76, Tryz.ntmps76
      go_wp2_with (first
        | (go_at_call 107; refine hU.mono ?_; rintro e w2 ⟨rfl, k2, r2⟩; clear hU c0
           have S2 : Stp (fun y => y = q) w w2 := Stp.of_step k2 (fun y hy => by rw [List.mem_singleton] at hy; exact .inl hy)
           have h2 := h.step S2 hq
           have hc := h2.c
           have z1 := hc.cell 1 _ rfl
           have z2 := hc.cell 2 _ rfl
           have z3 := hc.cell 3 _ rfl
           have f1 := hc.frozen 1
           have f2 := hc.frozen 2
           have f3 := hc.frozen 3))
      go_returns
      have S3 : ∀ j, Stp (fun y => y = g ∨ y = q) w (w2.setCell ⟨g, j, none⟩ (.int .u32 (v : Int))) := fun j => (S2.mono (fun y hy => .inl (.inr hy))).setCell (p := ⟨g, j, none⟩) (.inl (.inl rfl)) _
      have r3 : ∀ j, Rw (w2.setCell ⟨g, j, none⟩ (.int .u32 (v : Int))) q (ref p.use) := fun j => r2.stp ((Stp.refl (fun y => y = g) w2).setCell (p := ⟨g, j, none⟩) (.inl rfl) _) (fun e => hq e.symm)
      first
        | exact ⟨rfl, ⟨hc.set 1 _ rfl, hv, h.l1, h.l2⟩, r3 1, S3 1⟩
        | exact ⟨rfl, ⟨hc.set 2 _ rfl, h.l0, hv, h.l2⟩, r3 2, S3 2⟩
        | exact ⟨rfl, ⟨hc.set 3 _ rfl, h.l0, h.l1, hv⟩, r3 3, S3 3⟩
  · have hd0 : ¬ e0 = 0 := h0
    rw [if_neg h0]
    go_enter Tryz.func76, Tryz.ntmps76
    go_wp2_with (first
      | (go_at_call 107; refine hU.mono ?_; rintro e w2 ⟨rfl, k2, r2⟩; clear hU c0))
    go_returns
    have S2 : Stp (fun y => y = q) w w2 := Stp.of_step k2 (fun y hy => by rw [List.mem_singleton] at hy; exact .inl hy)
    exact ⟨rfl, h.step S2 hq, r2, S2.mono (fun y hy => .inl (.inr hy))⟩
theorem turn_is (x : WS) (gr : Nat) (p : PS) : x.turn gr p = (if p.useErr = 0 then (if p.use.useErr = 0 then (if p.use.use.useErr = 0 then (x.put1 gr).put0.put2 else (x.put1 gr).put0) else x.put1 gr) else x) := rfl
set_option maxHeartbeats 4000000 in
theorem rnturn_any {w : World} {g q : Nat} {x : WS} {p : PS} {k : Nat} (h : Rn w g x q) (hr : Rw w q (ref p)) (ho : okAt p k) (hk : k + 3 ≤ 1000000) (hq : g ≠ q) (gr : Nat) (hv : gr < 4294967296) :
    Calls Tryz.prog 47 #[.pointer (some ⟨g, 0, none⟩), .int .u32 (gr : Int)] w fun e w' => e = .returned (.int .i64 (turnErr p)) ∧ Rn w' g (x.turn gr p) q ∧ Rw w' q (ref p.turn) ∧ Stp (fun y => y = g ∨ y = q) w w' := by
  have hP1 := rnput_any h hr ho (by omega) hq 1 gr (by omega) hv
  have t1 : Hid True := trivial
  have t2 : Hid True := trivial
  by_cases e0 : p.useErr = 0
  · have o1 := ok_use ho
    rw [e0] at hP1
    have hP0 : ∀ w2, Rn w2 g (x.put1 gr) q → Rw w2 q (ref p.use) → _ := fun w2 h2 r2 => rnput_any h2 r2 o1 (by omega) hq 0 (nx x.a) (by omega) (nx_lt x.a)
    have hwr : IntKind.u32.wrap ((x.a : Int) + 1) = ((nx x.a : Nat) : Int) := by
      have := h.l0
      unfold nx; rw [IntKind.wrap_u32]; omega
    by_cases e1 : p.use.useErr = 0
    · have o2 := ok_use o1
      rw [e1] at hP0
      have hP2 : ∀ w3, Rn w3 g (x.put1 gr).put0 q → Rw w3 q (ref p.use.use) → _ := fun w3 h3 r3 => rnput_any h3 r3 o2 (by omega) hq 2 (sm (nx x.a) gr) (by omega) (sm_lt _ _)
      have hE : Hid (turnErr p = p.use.use.useErr ∧ x.turn gr p = (if p.use.use.useErr = 0 then (x.put1 gr).put0.put2 else (x.put1 gr).put0) ∧ p.turn = p.use.use.use) := ⟨by unfold turnErr; rw [if_pos e0, if_pos e1], by rw [turn_is, if_pos e0, if_pos e1], by unfold PS.turn; rw [if_pos e0, if_pos e1]⟩
      obtain ⟨e2, he2⟩ : ∃ e, Hid (p.use.use.useErr = e) := ⟨_, rfl⟩
      rw [he2.out] at hP2
      have hE' : Hid (turnErr p = e2 ∧ x.turn gr p = (if e2 = 0 then (x.put1 gr).put0.put2 else (x.put1 gr).put0) ∧ p.turn = p.use.use.use) := ⟨by rw [hE.out.1, he2.out], by rw [hE.out.2.1, he2.out], hE.out.2.2⟩
      rw [hE'.out.1]
      clear hE
      go_enter Tryz.func47, Tryz.ntmps47
      go_wp2_with (first
        | (go_at_call 76; clear t1; refine hP1.mono ?_; rintro e w2 ⟨rfl, h2, r2, s2⟩; clear hP1
           have h2' : Rn w2 g (x.put1 gr) q := h2
           have z1 := h2'.c.cell 1 _ rfl)
        | (go_at_call 76; clear t2; refine (hP0 _ h2' r2).mono ?_; rintro e w3 ⟨rfl, h3, r3, s3⟩; clear hP0
           have h3' : Rn w3 g (x.put1 gr).put0 q := h3
           have y1 := h3'.c.cell 1 _ rfl
           have y2 := h3'.c.cell 2 _ rfl))
      have hS : ∀ v, Below w3.heap.size w3 v → Rn v g (x.put1 gr).put0 q := fun v hv => h3'.later hv
      clear z1
      have h3d := h3'.later (Below.refl _ _).drew
      refine wp_region_held_drew (S := fun v => v.cell? ⟨g, 1, none⟩ = some (.int .u32 ((nx x.a : Nat) : Int)) ∧ v.cell? ⟨g, 2, none⟩ = some (.int .u32 ((gr : Nat) : Int))) (by kernel_rfl) ⟨h3d.c.cell 1 _ rfl, h3d.c.cell 2 _ rfl⟩ (fun hHeld => ?_)
      refine tl 0 (.pointer (some ⟨g, 0, none⟩)) rfl ?_
      try simp only [z]
      refine tl 1 (.pointer (some ⟨g, 0, none⟩)) rfl ?_
      try simp only [z]
      refine tl 2 (.pointer (some ⟨g, 0, none⟩)) rfl ?_
      try simp only [z]
      refine tl 3 (.pointer (some ⟨g, 1, none⟩)) rfl ?_
      try simp only [z]
      refine tl 4 (.pointer (some ⟨g, 1, none⟩)) rfl ?_
      try simp only [z]
      refine tl 5 (.int .u32 ((nx x.a : Nat) : Int)) rfl ?_ (fun u hu => by have x1 := hu.1; go_simp)
      try simp only [z]
      refine tl 6 (.pointer (some ⟨g, 0, none⟩)) rfl ?_
      try simp only [z]
      refine tl 7 (.pointer (some ⟨g, 0, none⟩)) rfl ?_
      try simp only [z]
      refine tl 8 (.pointer (some ⟨g, 1, none⟩)) rfl ?_
      try simp only [z]
      refine tl 9 (.pointer (some ⟨g, 2, none⟩)) rfl ?_
      try simp only [z]
      refine tl 10 (.int .u32 ((gr : Nat) : Int)) rfl ?_ (fun u hu => by have x1 := hu.2; go_simp)
      try simp only [z]
      refine rd 11 rfl (fun K hK => ?_)
      go_simp
      refine (rnsum_any (nx x.a) gr _ (nx_lt _) hv).mono ?_
      rintro e v4 ⟨rfl, c4⟩
      try go_wp2_with fail
      refine hK.out _ _ (⟨(h3d.later c4).c.cell 1 _ rfl, (h3d.later c4).c.cell 2 _ rfl⟩) (fun hHeld => ?_)
      clear hK K
      try simp only [z]
      refine rd 12 rfl (fun K hK => ?_)
      go_simp
      refine (hP2 _ (h3'.later (bnext (Below.refl _ _).drew c4 (Nat.le_refl _))) (r3.stp (Stp.of_below (bnext (Below.refl _ _).drew c4 (Nat.le_refl _)) (fun _ => False)) id)).mono ?_
      rintro e v5 ⟨rfl, h5, r5, s5⟩
      have k5 : v5.cell? ⟨g, 1, none⟩ = some (.int .u32 ((nx x.a : Nat) : Int)) ∧ v5.cell? ⟨g, 2, none⟩ = some (.int .u32 ((gr : Nat) : Int)) := by split at h5 <;> exact ⟨h5.c.cell 1 _ rfl, h5.c.cell 2 _ rfl⟩
      try go_wp2_with fail
      refine hK.out _ _ (k5) (fun hHeld => ?_)
      clear hK K
      try simp only [z]
      refine tl 13 (.int .i64 e2) rfl ?_
      try simp only [z]
      refine wpAnyH_done (by kernel_rfl) ?_ _
      go_wp2_with fail
      go_returns
      refine ⟨rfl, ?_, by rw [hE'.out.2.2]; exact r5, (s2.trans s3).trans ((Stp.of_below (bnext (Below.refl _ _).drew c4 (Nat.le_refl _)) _).trans s5)⟩
      rw [hE'.out.2.1]; exact h5
    · have hE : Hid (turnErr p = p.use.useErr ∧ x.turn gr p = x.put1 gr ∧ p.turn = p.use.use) := ⟨by unfold turnErr; rw [if_pos e0, if_neg e1], by rw [turn_is, if_pos e0, if_neg e1], by unfold PS.turn; rw [if_pos e0, if_neg e1]⟩
      rw [hE.out.1, hE.out.2.1, hE.out.2.2]
      have hx2 : (if p.use.useErr = 0 then (x.put1 gr).setI 0 (nx x.a) else x.put1 gr) = x.put1 gr := if_neg e1
      rw [hx2] at hP0
      clear hx2
      generalize p.use.useErr = e2 at *
      have hd1 : ¬ e2 = 0 := e1
      go_enter Tryz.func47, Tryz.ntmps47
      go_wp2_with (first
        | (go_at_call 76; clear t1; refine hP1.mono ?_; rintro e w2 ⟨rfl, h2, r2, s2⟩; clear hP1
           have h2' : Rn w2 g (x.put1 gr) q := h2
           have z1 := h2'.c.cell 1 _ rfl)
        | (go_at_call 76; clear t2; refine (hP0 _ h2' r2).mono ?_; rintro e w3 ⟨rfl, h3, r3, s3⟩; clear hP0))
      go_returns
      exact ⟨rfl, h3, r3, s2.trans s3⟩
  · have hE : Hid (turnErr p = p.useErr ∧ x.turn gr p = x ∧ p.turn = p.use) := ⟨by unfold turnErr; rw [if_neg e0], by rw [turn_is, if_neg e0], by unfold PS.turn; rw [if_neg e0]⟩
    rw [hE.out.1, hE.out.2.1, hE.out.2.2]
    rw [if_neg e0] at hP1
    generalize p.useErr = e2 at *
    have hd1 : ¬ e2 = 0 := e0
    go_enter Tryz.func47, Tryz.ntmps47
    go_wp2_with (first
      | (go_at_call 76; clear t1; refine hP1.mono ?_; rintro e w2 ⟨rfl, h2, r2, s2⟩; clear hP1))
    go_returns
    exact ⟨rfl, h2, r2, s2⟩
set_option maxHeartbeats 2000000 in
theorem rnclear_any {w : World} {g q : Nat} {x : WS} {p : PS} {k : Nat} (h : Rn w g x q) (hr : Rw w q (ref p)) (ho : okAt p k) (hk : k + 3 ≤ 1000000) (hq : g ≠ q) :
    Calls Tryz.prog 27 #[.pointer (some ⟨g, 0, none⟩)] w fun e w' => e = .returned (.int .i64 (turnErr p)) ∧ Rn w' g (x.turn 0 p) q ∧ Rw w' q (ref p.turn) ∧ Stp (fun y => y = g ∨ y = q) w w' := by
  have hT := rnturn_any h hr ho hk hq 0 (by omega)
  generalize turnErr p = e0 at *
  go_enter Tryz.func27, Tryz.ntmps27
  go_wp2_with (first
    | (go_at_call 47; refine hT.mono ?_; rintro e w2 ⟨rfl, h2, r2, s2⟩; clear hT))
  go_returns
  exact ⟨rfl, h2, r2, s2⟩
set_option maxRecDepth 100000
theorem shw_take (S : DS) {k : Nat} (hk : k < S.n) : (shw S).take (k + 1) = (shw S).take k ++ [S.shown (k : Int)] := by
  have h : (shw S)[k]? = some (S.shown (k : Int)) := by unfold shw; rw [List.getElem?_map, List.getElem?_range hk]; rfl
  rw [List.take_add_one, h]; rfl
theorem elBk : ElT 40 88 64 := ⟨by kernel_rfl, ⟨.agg Blk.zero.cs.toArray, 64, by kernel_rfl, rfl, by omega⟩, by omega⟩
theorem flatB_app (l r : List Blk) : flatB (l ++ r) = flatB l ++ flatB r := by unfold flatB; simp
theorem flatB_1 (b : Blk) : flatB [b] = b.cs := by unfold flatB; simp
structure OwBk (u wr : World) (v : Value) (l : List Blk) : Prop where
  ow : wr.ownsRow 0 88 64 v l.length (flatB l)
  nw : New u.heap.size v
  b : Below u.heap.size u wr
theorem OwBk.later {u wr w' : World} {v : Value} {l : List Blk} (h : OwBk u wr v l) (k : Below wr.heap.size wr w') : OwBk u w' v l := ⟨ro_later h.ow k, h.nw, bnext h.b k (Nat.le_refl _)⟩
theorem OwBk.app {u wr w' : World} {v v' : Value} {l : List Blk} {c : Blk} (h : OwBk u wr v l) (hA : Apd wr u.heap.size 88 64 v l.length 1 (flatB l ++ c.cs) v' w') : OwBk u w' v' (l ++ [c]) := by
  obtain ⟨h1, h2, h3, h4, h5⟩ := hA
  refine ⟨by rw [List.length_append, flatB_app, flatB_1]; exact h1, h2, ?_⟩
  exact ((Stp.of_below h.b (fun _ => False)).next h4 (fun x e => .inr (h.nw x e))).below (Nat.le_refl _) (fun x e => e.elim)
theorem OwBk.bls {u wr : World} {v : Value} {l : List Blk} (h : OwBk u wr v l) : ∃ a c, v = .slice a l.length c ∧ BlsU wr a l.length c l := by
  rcases h.ow.2 with ⟨e, e2⟩ | ⟨g, cap, cur, e, _⟩
  · have hl : l = [] := List.eq_nil_of_length_eq_zero e2
    subst hl
    exact ⟨none, 0, e, BlsU.nilSlice wr⟩
  · refine ⟨some ⟨g, 0, none⟩, cap, e, ?_⟩
    have h2 := h.ow
    rw [e] at h2
    exact (Wd.own h2).bls
section
variable {ops : Array Oper} {rest : List Oper} {o : Oper} {a : Act} {w : World} {Q : Exit → Act → World → Prop}
theorem at_bsBk (hw : Region.wanted o (yielded ops a.tmps) = true) (x : Operand) (ho : o.op = .buildSlice 40 1 #[(0, x)]) (c : Blk) (hx : a.eval x = .agg c.cs.toArray)
    (h : ∀ g w', w.heap.size ≤ g → w'.rangeAt g 0 c.cs → Below w.heap.size w w' → wpList Tryz.prog ops Q rest (a.put o.dst (.slice (some ⟨g, 0, none⟩) 1 1)) w') : wpList Tryz.prog ops Q (o :: rest) a w := by
  refine op_val hw _ _ ?_ (h w.heap.size (w.alloc (.cells c.cs.toArray 88)) (Nat.le_refl _) (Cs.made w c.cs _ c.cs_one).range ((Below.refl _ _).alloc (Nat.le_refl _) _))
  have hb : (Instr.buildSlice 40 1 #[(0, .agg c.cs.toArray)]).run Tryz.prog w = .ok (.slice (some ⟨w.heap.size, 0, none⟩) 1 1) (w.alloc (.cells c.cs.toArray 88)) := lit36 c w
  simp only [execOp, ho, Sem.run_bind, List.map_toArray, List.map_cons, List.map_nil, hx, hb]; rfl
end
def NewR (u w' : World) (y q x : Nat) (d : DS) (s : PS) (n : Int) (R : Nat → Prop) (gY : Nat) : Prop := ∃ yc gp, (u.heap.size ≤ gY ∧ u.heap.size ≤ yc ∧ u.heap.size ≤ gp ∧ yc ≠ gp ∧ gY ≠ yc ∧ gY ≠ gp) ∧
  Cs w' gY [.int .i64 (fdG (shw d)).g, .int .i64 (fdG (shw d)).i, .int .i64 (fdG (shw d)).d, .pointer (some ⟨y, 0, none⟩), .pointer (some ⟨x, 0, none⟩), .pointer (some ⟨yc, 0, none⟩), .pointer (some ⟨gp, 0, none⟩), .slice none 0 0] ∧ Rx w' yc y q (CZ.new d (some s) n.toNat) s (.slice none 0 0) (fun z => z = yc) R ∧ Rh w' gp GZ.new (fun _ => False)
set_option maxHeartbeats 4000000 in
theorem rvnew_size {u : World} {y q x : Nat} {d : DS} {s : PS} {R : Nat → Prop} (hd : RD u y q d R) (hr : Rw u q (ref s)) (hq : ¬ R q) (hqt : q < u.heap.size) (n : Nat) (h1 : 1 ≤ n) (h2 : n ≤ 64) (hn2 : d.n ≤ 2048) :
    Calls Tryz.prog 29 #[.pointer (some ⟨y, 0, none⟩), .pointer (some ⟨x, 0, none⟩), .int .i64 (n : Int)] u fun e w' => ∃ pv, e = .returned (.tuple #[.pointer pv, .int .i64 (fdE (shw d))]) ∧ Below u.heap.size u w' ∧ TwoR (fdE (shw d)) pv (NewR u w' y q x d s (n : Int) R) := by
  have hC := rcnew_good hd hr hq hqt n h1 h2
  have hFd : ∀ w' a c, BlsU w' a (shw d).length c (shw d) → _ := fun w' a c h => rfind_anyU a (shw d).length c (shw d) w' h
  have hRd := fun w' (b : Below u.heap.size u w') (i : Nat) (hi : i < d.n) => rread_any (hd.step (Stp.of_below b (fun _ => False)) (fun _ _ => id)) (i : Int) (wfi_of (by omega))
  have hc1 : ∃ s0, ∀ w', Below u.heap.size u w' → w'.cell? ⟨y, 1, none⟩ = some (.slice (some ⟨s0, 0, none⟩) d.n d.n) := by
    obtain ⟨s0, t0, v0, hk⟩ := hd
    exact ⟨s0, fun w' b => (Stp.of_below b (fun _ => False)).cell hk.c1 id⟩
  obtain ⟨s0, hc1⟩ := hc1
  have hTk : ∀ k, k < d.n → _ := fun k hk => shw_take d (k := k) hk
  have hln := shw_len d
  unfold NewR
  generalize fdG (shw d) = sg at *
  generalize fdI (shw d) = si at *
  generalize fdE (shw d) = e0 at *
  generalize hL : shw d = L at *
  have hLl : Hid (L.length = d.n) := hln
  clear hln hL
  go_enter Tryz.func29, Tryz.ntmps29
  go_wp2_with (first
    | (go_at_call 52; refine hC.mono ?_; rintro e w2 ⟨yc, rfl, l2, rx, b2⟩; clear hC))
  have start : OwBk w2 _ _ [] := ⟨World.ownsRow_made w2 #[] 0 (Nat.zero_le _) (Nat.zero_le _) rfl, fun r e => by
    have : w2.heap.size = r := by simpa [Value.ownBlock] using e
    omega, (Below.refl _ w2).alloc (Nat.le_refl _) _⟩
  go_loopw [10, 11] (fun v i wr => ∃ (k : Nat) (a : Option Addr) (c : Nat), k ≤ d.n ∧ v = .slice a k c ∧ i = .int .i64 (k : Int) ∧ OwBk w2 wr (.slice a k c) (L.take k)) (fun _ i _ => d.n - (intOf i).toNat)
  case atStart => exact ⟨0, _, _, Nat.zero_le _, rfl, rfl, start⟩
  case round =>
    clear start
    obtain ⟨k, a0, c0, hk, rfl, rfl, I⟩ := hrel
    have y1 := hc1 _ (bnext b2 I.b (Nat.le_refl _))
    by_cases hlt : k < d.n
    · have hlt' : (k : Int) < (d.n : Int) := by omega
      have hRk := hRd _ (bnext b2 I.b (Nat.le_refl _)) k hlt
      have hT1 : Hid (L.take (k + 1) = L.take k ++ [d.shown (k : Int)]) := hTk k hlt
      have hlk : Hid ((L.take k).length = k) := by show _ = _; rw [List.length_take, hLl.out]; omega
      generalize d.shown (k : Int) = X at *
      generalize checkErr d (k : Int) = x0 at *
      have hxl := X.len
      obtain ⟨dn, hdn⟩ : ∃ m, Hid (d.n = m) := ⟨_, rfl⟩
      have hkn : k < dn := by rw [← hdn.out]; exact hlt
      rw [hdn.out] at y1 hlt'
      go_wp2_with (first
        | (go_at_call 53; refine hRk.mono ?_; rintro e w4 ⟨rfl, b4⟩; clear hRk)
        | (refine at_new 88 64 arrB (by rfl) (by rfl) ?_; intro g5 w5 a5 z5 r5 b5)
        | (refine at_put 88 64 arrB (by rfl) _ _ (by rfl) g5 (by rfl) X.l (by rfl) hxl _ r5 (by simp) ?_; intro w6 r6 s6
           have B6 : Below wr.heap.size wr w6 := ((Stp.of_below (bnext b4 b5 (Nat.le_refl _)) (fun _ => False)).next s6 (fun x e => .inr (by have := b4.size; omega))).below (Nat.le_refl _) (fun x e => e.elim))
        | (refine at_get 88 64 arrB (by rfl) _ (by rfl) g5 (by rfl) _ r6 hxl ?_)
        | (refine at_bsBk (by rfl) _ (by rfl) X (by rfl) ?_; intro g7 w7 a7 r7 b7
           have I7 := I.later (bnext B6 b7 (Nat.le_refl _))
           have ow7 := I7.ow
           rw [hlk.out] at ow7)
        | (at_builtin; refine at_appR elBk w2.heap.size rfl _ _ (by rfl) (by rfl) ow7 I7.nw (some ⟨g7, 0, none⟩) 1 X.cs (m := 1) (by rfl) (by rw [X.cs_len]) (fun e => by cases e) (fun ad e j v hv => by injection e with e; subst e; rw [Addr.add_mid]; exact r7 j v hv) X.cs_one (by omega) I7.b.size ?_
           intro v8 w8 hA))
      have I8 : OwBk w2 w8 v8 (L.take (k + 1)) := by rw [hT1.out]; exact I7.app (by rw [hlk.out]; exact hA)
      have hl8 : (L.take (k + 1)).length = k + 1 := by rw [List.length_take, hLl.out]; omega
      obtain ⟨a8, c8, e8, -⟩ := I8.bls
      rw [hl8] at e8
      subst e8
      clear hl8
      go_wp2_with fail
      go_roundw
      case rel => exact ⟨k + 1, a8, c8, by omega, rfl, by go_num, I8⟩
      case measure => simp [intOf]; omega
    · have hk' : k = d.n := by omega
      subst hk'
      have hT2 : L.take d.n = L := by rw [← hLl.out, List.take_length]
      rw [hT2] at I
      obtain ⟨a8, c8, e8, B8⟩ := I.bls
      have hF8 := hFd _ _ _ B8
      rw [hLl.out] at e8 hF8
      injection e8 with e8 e9 e10
      subst e8; subst e10
      have hIb := I.b
      clear I B8 hFd hRd hTk hT2 hlt hk e9
      by_cases hf : e0 = 0
      · subst hf
        go_wp2_with (first
          | (go_at_call 54; refine hF8.mono ?_; rintro e w4 ⟨rfl, b4⟩; clear hF8)
          | (refine at_newG (by rfl) (by rfl) ?_; intro g5 w5 a6 z6 r5 b5)
          | (refine at_putG (by rfl) _ _ (by rfl) g5 (by rfl) sg (by rfl) _ r5 ?_; intro W r6 s6))
        have B2W : Below w2.heap.size w2 W := ((Stp.of_below (bnext (bnext hIb b4 (Nat.le_refl _)) b5 (Nat.le_refl _)) (fun _ => False)).next s6 (fun x e => .inr (by have := hIb.size; have := b4.size; omega))).below (Nat.le_refl _) (fun x e => e.elim)
        have BW : Below u.heap.size u W := bnext b2 B2W (Nat.le_refl _)
        refine wp_region_held_drew (S := fun x => Below W.heap.size W x) (by kernel_rfl) (Below.refl _ _).drew (fun hHeld => ?_)
        refine tm 0 (gv sg) rfl
          (yields_G (by rfl) _ (by rfl) g5 (by rfl) sg (fun x hx => r6.later hx)) ?_
        try simp only [z]
        refine tl 1 (.pointer (some ⟨y, 0, none⟩)) rfl ?_
        try simp only [z]
        refine tl 2 (.pointer (some ⟨x, 0, none⟩)) rfl ?_
        try simp only [z]
        refine tl 3 (.pointer (some ⟨yc, 0, none⟩)) rfl ?_
        try simp only [z]
        refine rd 4 rfl (fun K hK => ?_)
        go_simp
        refine (rnew_any _).mono ?_
        rintro e v1 ⟨rfl, q1, c1⟩
        try go_wp2_with fail
        refine hK.out _ _ (bnext hHeld c1 (Nat.le_refl _)) (fun hHeld => ?_)
        clear hK K
        try simp only [z]
        refine tl 5 (.agg #[.int .i64 sg.g, .int .i64 sg.i, .int .i64 sg.d, .pointer (some ⟨y, 0, none⟩), .pointer (some ⟨x, 0, none⟩), .pointer (some ⟨yc, 0, none⟩), .pointer (some ⟨W.drew.heap.size, 0, none⟩), .slice none 0 0]) rfl ?_ (fun u hu => by kernel_rfl)
        try simp only [z]
        refine rd 6 rfl (fun K hK => ?_)
        refine step_boxC 145 rfl (.tmp 65) rfl [.int .i64 sg.g, .int .i64 sg.i, .int .i64 sg.d, .pointer (some ⟨y, 0, none⟩), .pointer (some ⟨x, 0, none⟩), .pointer (some ⟨yc, 0, none⟩), .pointer (some ⟨W.drew.heap.size, 0, none⟩), .slice none 0 0] (by rfl) (by intro v hv; simp at hv; rcases hv with rfl | rfl | rfl | rfl | rfl | rfl | rfl | rfl <;> rfl) ?_
        intro gV v8 m8 z8 r8 b8
        refine hK.out _ _ (bnext hHeld b8 (Nat.le_refl _)) (fun hHeld => ?_)
        clear hK K
        try simp only [z]
        refine tl 7 (.pointer (some ⟨gV, 0, none⟩)) rfl ?_
        try simp only [z]
        refine tl 8 (.int .i64 0) rfl ?_
        try simp only [z]
        refine wpAnyH_done (by kernel_rfl) ?_ _
        go_wp2_with fail
        go_returns
        have b8W : Below W.heap.size W v8 := hHeld
        have hyc := rx.lt yc rx.eg
        have hW2 := B2W.size
        have hu2 := b2.size
        have hv1 : W.heap.size < v1.heap.size := by
          obtain ⟨a, c, L', h⟩ := q1
          exact h.cc.lt
        have hdr : W.drew.heap.size = W.heap.size := rfl
        exact ⟨_, rfl, bnext BW b8W (Nat.le_refl _), .inr ⟨rfl, gV, rfl, yc, W.drew.heap.size, ⟨by omega, l2, by omega, by omega, by omega, by omega⟩, r8, rx.later (bnext B2W b8W (Nat.le_refl _)), by obtain ⟨a, c, L', h⟩ := q1; exact ⟨a, c, L', h.later b8⟩⟩⟩
      · have hd0 : ¬ e0 = 0 := hf
        go_wp2_with (first
          | (go_at_call 54; refine hF8.mono ?_; rintro e w4 ⟨rfl, b4⟩; clear hF8)
          | (refine at_newG (by rfl) (by rfl) ?_; intro g5 w5 a6 z6 r5 b5)
          | (refine at_putG (by rfl) _ _ (by rfl) g5 (by rfl) sg (by rfl) _ r5 ?_; intro W r6 s6))
        go_returns
        exact ⟨none, rfl, bnext b2 (((Stp.of_below (bnext (bnext hIb b4 (Nat.le_refl _)) b5 (Nat.le_refl _)) (fun _ => False)).next s6 (fun x e => .inr (by have := hIb.size; have := b4.size; omega))).below (Nat.le_refl _) (fun x e => e.elim)) (Nat.le_refl _), .inl ⟨hf, rfl⟩⟩
theorem rvnew_bad {u : World} (y x : Nat) (n : Int) (h : n < 1 ∨ 64 < n) :
    Calls Tryz.prog 29 #[.pointer (some ⟨y, 0, none⟩), .pointer (some ⟨x, 0, none⟩), .int .i64 n] u fun e w' => e = .returned (.tuple #[.pointer none, .int .i64 2]) ∧ u = w' := by
  have hC := rcnew_bad (w := u) y n h
  clear h
  go_enter Tryz.func29, Tryz.ntmps29
  go_wp2_with (first
    | (go_at_call 52; refine hC.mono ?_; rintro e w2 ⟨rfl, rfl⟩; clear hC))
  go_returns
  exact ⟨rfl, rfl⟩
theorem rvnew_any {u : World} {y q x : Nat} {d : DS} {s : PS} {R : Nat → Prop} (hd : RD u y q d R) (hr : Rw u q (ref s)) (hq : ¬ R q) (hqt : q < u.heap.size) (n : Int) (hn2 : d.n ≤ 2048) :
    Calls Tryz.prog 29 #[.pointer (some ⟨y, 0, none⟩), .pointer (some ⟨x, 0, none⟩), .int .i64 n] u fun e w' => ∃ pv, e = .returned (.tuple #[.pointer pv, .int .i64 (mkE d n)]) ∧ Below u.heap.size u w' ∧ TwoR (mkE d n) pv (NewR u w' y q x d s n R) := by
  by_cases hn : n < 1 ∨ 64 < n
  · have e : mkE d n = 2 := by unfold mkE; rw [if_pos hn]
    rw [e]
    exact (rvnew_bad y x n hn).mono fun e w' ⟨h1, h2⟩ => ⟨none, h1, h2 ▸ Below.refl _ _, .inl ⟨by decide, rfl⟩⟩
  · have e : mkE d n = fdE (shw d) := by unfold mkE; rw [if_neg hn]
    rw [e]
    obtain ⟨m, rfl⟩ : ∃ m : Nat, n = (m : Int) := ⟨n.toNat, by omega⟩
    exact rvnew_size hd hr hq hqt m (by omega) (by omega) hn2
set_option maxRecDepth 100000
theorem pnew_L (w : World) : Calls Tryz.prog 18 #[] w fun e w' => ∃ g, e = .returned (.pointer (some ⟨g, 0, none⟩)) ∧ w.heap.size ≤ g ∧ g < w'.heap.size ∧ Pw w' g PS.fresh ∧ Below w.heap.size w w' :=
  (pnew_any w).mono fun e w' ⟨h1, h2, h3, h4⟩ => ⟨_, h1, Nat.le_refl _, by omega, h3, h2⟩
theorem rpnew_L (w : World) : Calls Tryz.prog 19 #[] w fun e w' => ∃ g, e = .returned (.pointer (some ⟨g, 0, none⟩)) ∧ w.heap.size ≤ g ∧ g < w'.heap.size ∧ Rw w' g (ref PS.fresh) ∧ Below w.heap.size w w' :=
  (rnew_anyW w).mono fun e w' ⟨h1, h2, h3, h4⟩ => ⟨_, h1, Nat.le_refl _, by omega, h3, h2⟩
theorem nnew_L (s : Nat) (w : World) : Calls Tryz.prog 24 #[.pointer (some ⟨s, 0, none⟩)] w fun e w' => ∃ g, e = .returned (.pointer (some ⟨g, 0, none⟩)) ∧ w.heap.size ≤ g ∧ g < w'.heap.size ∧ Ww w' g ⟨0, 0, 0⟩ (some s) ∧ Below w.heap.size w w' :=
  (nnew_any (some s) w).mono fun e w' ⟨h1, h2, h3, h4⟩ => ⟨_, h1, Nat.le_refl _, by omega, h3, h2⟩
section
variable {ops : Array Oper} {rest : List Oper} {o : Oper} {a : Act} {w : World} {K : Act → World → Prop} {Q : Exit → Act → World → Prop} {R : Prop}
theorem set_run (T g i : Nat) (hs : ∀ w, (sizeOf T).run Tryz.prog w = .ok 1 w) (p : Option Addr) (cs : List Value) (hR : Cs w g cs) (hi : i < cs.length) : (storeVar T ⟨g, i, none⟩ (.pointer p)).run Tryz.prog w = .ok () (w.setCell ⟨g, i, none⟩ (.pointer p)) := by
  have hc := hR.cell i _ (List.getElem?_eq_getElem hi)
  have hf := hR.frozen i
  go_simp
theorem at_setPt (T : Nat) (hs : ∀ w, (sizeOf T).run Tryz.prog w = .ok 1 w) (hw : Region.wanted o (yielded ops a.tmps) = true) (x y : Operand) (ho : o.op = .store T x y) (g i : Nat) (hx : a.eval x = .pointer (some ⟨g, i, none⟩)) (p : Option Addr) (hy : a.eval y = .pointer p) (cs : List Value) (hR : Cs w g cs) (hi : i < cs.length)
    (h : ∀ w', Cs w' g (cs.set i (.pointer p)) → Stp (fun x => x = g) w w' → wpList Tryz.prog ops Q rest (a.put o.dst undef) w') : wpList Tryz.prog ops Q (o :: rest) a w := by
  refine op_unit hw _ ?_ (h (w.setCell ⟨g, i, none⟩ (.pointer p)) (hR.set i _ rfl) ((Stp.refl (fun x => x = g) w).setCell (p := ⟨g, i, none⟩) (.inl rfl) _))
  simp only [execOp, ho, hx, hy, Instr.storeAt, Instr.sureAddr, Sem.run_bind, Sem.run_pure, Result.andThen_ok]
  rw [set_run T g i hs p cs hR hi]; rfl
theorem step_setPt (T : Nat) (hs : ∀ w, (sizeOf T).run Tryz.prog w = .ok 1 w) (hgd : o.guard = none) (x y : Operand) (ho : o.op = .store T x y) (g i : Nat) (hx : a.eval x = .pointer (some ⟨g, i, none⟩)) (p : Option Addr) (hy : a.eval y = .pointer p) (cs : List Value) (hR : Cs w g cs) (hi : i < cs.length)
    (h : ∀ w', Cs w' g (cs.set i (.pointer p)) → Stp (fun x => x = g) w w' → K (a.put o.dst undef) w') : if Region.wanted o (yielded ops a.tmps) = true then Oper.wp Tryz.prog o a w K Q else R := by
  have hw : Region.wanted o (yielded ops a.tmps) = true := by simp [Region.wanted, hgd]
  rw [if_pos hw]
  have hr : (execOp a.eval o).run Tryz.prog w = .ok .skip (w.setCell ⟨g, i, none⟩ (.pointer p)) := by
    simp only [execOp, ho, hx, hy, Instr.storeAt, Instr.sureAddr, Sem.run_bind, Sem.run_pure, Result.andThen_ok]
    rw [set_run T g i hs p cs hR hi]; rfl
  unfold Oper.wp
  rw [hr]
  exact h _ (hR.set i _ rfl) ((Stp.refl (fun x => x = g) w).setCell (p := ⟨g, i, none⟩) (.inl rfl) _)
end
theorem sz33 (w : World) : (sizeOf 46).run Tryz.prog w = .ok 1 w := by kernel_rfl
theorem sz34 (w : World) : (sizeOf 47).run Tryz.prog w = .ok 1 w := by kernel_rfl
theorem sz35 (w : World) : (sizeOf 48).run Tryz.prog w = .ok 1 w := by kernel_rfl
theorem sz37 (w : World) : (sizeOf 50).run Tryz.prog w = .ok 1 w := by kernel_rfl
theorem sz38 (w : World) : (sizeOf 51).run Tryz.prog w = .ok 1 w := by kernel_rfl
theorem sz39 (w : World) : (sizeOf 52).run Tryz.prog w = .ok 1 w := by kernel_rfl
end Go.Proofs.YtgdnhkdfcjpdiaaGreatDoor
