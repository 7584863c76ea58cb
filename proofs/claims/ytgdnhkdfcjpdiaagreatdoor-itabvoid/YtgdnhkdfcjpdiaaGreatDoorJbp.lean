/-
  Texts of my own, joined: no statement is proved here.
-/
import Derived.Lib.Walk
import Derived.Deep.RegionLaw
import Derived.Test.YtgdnhkdfcjpdiaaGreatDoorRows
import Derived.OpenShut
import Derived.Shelf.SlIterI.Sorted
import Derived.Shelf.SlIterI.Keys
import Derived.BigQuiet
import Derived.Test.YtgdnhkdfcjpdiaaGreatDoorJbk
set_option linter.unusedSimpArgs false
set_option linter.unusedVariables false
namespace Go.Proofs.YtgdnhkdfcjpdiaaGreatDoor
open Go.ChangeShapes Go.WideShapes Go.ChangeAt Go.RowKit
section
variable {Z : CZ} {i : Int} {b : Blk} {t : Nat}
def CZ.hasP (Z : CZ) : Prop := Z.p.isSome = true
theorem CZ.hasP.ex (h : Z.hasP) : ∃ p, Z.p = some p := Option.isSome_iff_exists.1 h
theorem useP_has {d : DS} {p : Option PS} (h : p.isSome = true) (i : Int) : (useP d p i).isSome = true := by
  unfold useP oUse
  split
  · rw [Option.isSome_map]; exact h
  · exact h
theorem CZ.hasP.wrt (h : Z.hasP) (i : Int) (q : Pg) : (Z.wrt i q).hasP := useP_has h i
theorem CZ.hasP.back (h : Z.hasP) (i : Int) : (Z.back i).hasP := by
  unfold CZ.back
  split
  · exact h
  · split
    · exact h.wrt _ _
    · exact h
theorem CZ.hasP.room (h : Z.hasP) : Z.room.hasP := by
  unfold CZ.room
  split
  · exact h
  · split
    · exact h
    · split
      · exact h.back _
      · exact h.back _
theorem CZ.hasP.hold (h : Z.hasP) (i : Int) : (Z.hold i).hasP := by
  unfold CZ.hold
  split
  · split
    · exact h
    · split
      · exact h.room
      · exact h.room
  · exact h
theorem CZ.ok.okk {p : PS} {k : Nat} (h : Z.ok t) (ht : t + k ≤ 1000000) (hp : Z.p = some p) : p.okk k := by
  have := h.sp p hp
  unfold okAt at this
  unfold PS.okk
  omega
theorem CZ.ok.setp {p' : PS} {t' : Nat} (h : Z.ok t) (ht : t ≤ t') (hp : okAt p' t') : CZ.ok t' { Z with p := some p' } :=
  ⟨h.n1, h.n2, h.nd, h.inn, h.len, fun e he => ⟨(h.pin e he).1, by have := (h.pin e he).2; omega⟩, fun i => Nat.le_trans (h.wt i) ht, fun s hs => by injection hs with hs; subst hs; exact hp⟩
theorem turn_okAt {p : PS} {k : Nat} (h : okAt p k) : okAt p.turn (k + 3) := by
  unfold PS.turn
  split
  · split
    · exact okAt_mono (use_okAt (use_okAt (use_okAt h))) (by omega)
    · exact okAt_mono (use_okAt (use_okAt h)) (by omega)
  · exact okAt_mono (use_okAt h) (by omega)
theorem markP_okAt {x : WS} {n : Nat} {p : PS} {k : Nat} (h : okAt p k) : okAt (markP x n p) (k + 3) := by
  unfold markP
  split
  · exact okAt_mono h (by omega)
  · exact turn_okAt h
end
structure VOk (t k : Nat) (V : VZ) : Prop where
  c : V.c.ok t
  p : V.c.hasP
  la : V.g.last ≤ (k : Int)
  n6 : ∀ p ∈ V.g.l, p.needs.length ≤ 6
section
variable {V : VZ} {t k t' k' : Nat} {i : Int} {b : Blk}
theorem VOk.mono (h : VOk t k V) (ht : t ≤ t') (hk : k ≤ k') : VOk t' k' V := ⟨h.c.mono ht, h.p, by have := h.la; omega, h.n6⟩
theorem VOk.look (h : VOk t k V) (i : Int) : VOk (t + 1) k (V.look i) := ⟨h.c.hold i, h.p.hold i, h.la, h.n6⟩
theorem VOk.vp (h : VOk t k V) : V.c.p = some V.p := by
  obtain ⟨p, hp⟩ := h.p.ex
  unfold VZ.p; rw [hp]; rfl
theorem VOk.mrk (h : VOk t k V) (n : Nat) : VOk (t + 3) k (V.mrk n) :=
  ⟨h.c.setp (by omega) (markP_okAt (h.c.sp _ h.vp)), rfl, h.la, h.n6⟩
theorem VOk.add (h : VOk t k V) (p : Pt) (hp : p.needs.length ≤ 6) : VOk t (k + 1) { V with g := V.g.add p } :=
  ⟨h.c, h.p, add_la h.la p, add_n6 h.n6 p hp⟩
theorem VOk.pat (h : VOk t k V) (p : Pt) (hp : p.needs.length ≤ 6) : VOk (t + 3) (k + 1) (V.pat p) := by
  unfold VZ.pat
  split
  · split
    · exact (h.add p hp).mrk _
    · exact h.mono (by omega) (by omega)
  · exact h.mono (by omega) (by omega)
end
theorem rowG : ∃ d, Tryz.prog.underlying 43 = some d ∧ d.isRow = true := ⟨_, Tryz.underlying43, rfl⟩
theorem sizeG : (Tryz.prog.info? 43).map (·.size) = some 3 := by kernel_rfl
theorem srtPl : Srt 199 3 [.int .i64 0, .int .i64 0, .int .i64 0] :=
  ⟨⟨_, Tryz.underlying199, rfl⟩, by kernel_rfl, fun w => (zero_of_info (v := .agg #[.int .i64 0, .int .i64 0, .int .i64 0]) (n := 3) (by kernel_rfl)).1 w, rfl, by intro v hv; simp at hv; subst hv; rfl⟩
theorem PoI.psL {w w' : World} {v : Value} {L : List Pe} {l : List Pt} (h : PoI w w' v L l) (hw : ∀ p ∈ l, p.wfp) : ∃ s : Sv, v = .slice s.a s.n s.c ∧ PsL w' s l ∧ Below w.heap.size w w' := by
  have hf : FwI w w' v L := ⟨h.u, fun t ht => (h.ms t ht).mono (fun x hx => ⟨hx.1.1, hx.1.2, hx.2⟩), fun t ht => hw t.p (by rw [← h.eq]; exact List.mem_map_of_mem ht)⟩
  obtain ⟨s, h1, h2, h3⟩ := hf.psL
  refine ⟨s, h1, ?_, h3⟩
  have : pts L = l := h.eq
  rw [← this]; exact h2
theorem wtP_wfp {Z : GZ} (h : Z.ok 2000) (s : Int) : ∀ p ∈ wtP Z.l s, p.wfp := fun p hp => h.wfp (List.mem_filter.1 hp).1
theorem of_L {w : World} {g : Nat} {Z : GZ} {E F : Nat → Prop} (H : Gh w g Z E F) (s : Int) (hs : wfi s) (hnl : ∀ p ∈ Z.l, p.needs.length ≤ 6) :
    Calls Tryz.prog 64 #[.pointer (some ⟨g, 0, none⟩), .int .i64 s] w fun e w' => ∃ t : Sv, e = .returned (.slice t.a t.n t.c) ∧ PsL w' t (wtP Z.l s) ∧ Below w.heap.size w w' := by
  have hok := H.ok
  obtain ⟨_, _, _, _, H⟩ := H
  refine (of_any H s hs (fun p hp => by have := hnl p hp; omega)).mono ?_
  rintro e w' ⟨v, L, rfl, h⟩
  obtain ⟨t, rfl, h1, h2⟩ := h.psL (wtP_wfp hok s)
  exact ⟨t, rfl, h1, h2⟩
theorem retG1 {fn : Func} {p : Tmp} {tmps : Array Value} {w : World} {g : Nat} {s : Gm} (h : fn.results = #[.cell p 43]) (hp : tmps.getD p undef = .pointer (some ⟨g, 0, none⟩)) (hR : GR w g s) : (results fn tmps).run Tryz.prog w = .ok (gv s) w := by
  have hp' : tmps[p]?.getD undef = .pointer (some ⟨g, 0, none⟩) := by simpa using hp
  simp [results, h, hp', asAddr, loadG hR]
section
variable {u : World} {A : VA} {V : VZ} {U E F T : Nat → Prop} {t k : Nat}
set_option maxRecDepth 100000 in
set_option maxHeartbeats 2000000 in
theorem vgroup_any (H : Vx u A V U E F) (x : Int) :
    Calls Tryz.prog 70 #[.pointer (some ⟨A.v, 0, none⟩), .int .i64 x] u fun e w' => e = .returned (.tuple #[.int .i64 (V.s.pg x), .bool (V.hasG x)]) ∧ Below u.heap.size u w' := by
  have hc := H.c
  have hW := where_any V.s x
  unfold VZ.hasG
  unfold VA.cs at hc
  generalize V.s.pk x = K at *
  generalize V.s.pg x = G at *
  generalize V.s.pi x = I at *
  generalize V.s.werr x = e0 at *
  generalize V.s.g = s1 at *
  generalize V.s.i = s2 at *
  generalize V.s.d = s3 at *
  clear H
  go_enter Tryz.func70, Tryz.ntmps70
  go_wp2_with (first
    | (refine at_getP 43 3 rowG sizeG (by rfl) _ (by rfl) A.v 4 (by rfl) _ hc [.int .i64 s1, .int .i64 s2, .int .i64 s3] (by rfl) rfl ?_)
    | (go_at_call 93; refine (hW _).mono ?_; rintro e w1 ⟨rfl, b1⟩; clear hW)
    | (refine at_newC 199 3 _ srtPl (by rfl) (by rfl) ?_; intro g2 w2 a2 z2 r2 b2)
    | (refine at_putC 199 3 _ srtPl (by rfl) _ _ (by rfl) g2 (by rfl) [.int .i64 K, .int .i64 G, .int .i64 I] (by rfl) rfl (by intro v hv; simp at hv; rcases hv with rfl | rfl | rfl <;> rfl) _ r2 (by rfl) ?_; intro w3 r3 s3))
  have c0 := r3.cell 0 _ rfl
  have c1 := r3.cell 1 _ rfl
  have B : Below u.heap.size u w3 := ((Stp.of_below (bnext b1 b2 (Nat.le_refl _)) (fun x => u.heap.size ≤ x)).next s3 (fun x hx => .inl (by subst hx; have := b1.size; omega))).below (Nat.le_refl _) (fun _ h => h)
  clear b1 b2 s3 r2 r3 hc
  by_cases h0 : e0 = 0
  · subst h0
    by_cases h1 : K = 1
    · subst h1
      go_quiet (fail)
      go_wp2_with fail
      go_returns
      exact ⟨rfl, ((Stp.of_below B (fun _ => False)).drewN _).below (Nat.le_refl _) (fun _ h => h.elim)⟩
    · have hd : decide (K = 1) = false := by simp [h1]
      go_quiet (fail)
      go_wp2_with fail
      go_returns
      exact ⟨by simp [h1], ((Stp.of_below B (fun _ => False)).drewN _).below (Nat.le_refl _) (fun _ h => h.elim)⟩
  · have hd : decide (e0 = 0) = false := by simp [h0]
    go_quiet (fail)
    go_wp2_with fail
    go_returns
    exact ⟨by simp [h0], ((Stp.of_below B (fun _ => False)).drewN _).below (Nat.le_refl _) (fun _ h => h.elim)⟩
set_option maxRecDepth 100000 in
set_option maxHeartbeats 2000000 in
theorem vgeom_any (H : Vx u A V U E F) :
    Calls Tryz.prog 13 #[.pointer (some ⟨A.v, 0, none⟩)] u fun e w' => e = .returned (gv V.s) ∧ Below u.heap.size u w' := by
  have hc := H.c
  unfold VA.cs at hc
  clear H
  go_enter Tryz.func13, Tryz.ntmps13
  go_wp2_with (first
    | (refine at_newG (by rfl) (by rfl) ?_; intro g2 w2 a2 z2 r2 b2)
    | (refine at_getP 43 3 rowG sizeG (by rfl) _ (by rfl) A.v 4 (by rfl) _ (hc.step (Stp.of_below b2 (fun _ => False)) id) [.int .i64 V.s.g, .int .i64 V.s.i, .int .i64 V.s.d] (by rfl) rfl ?_)
    | (refine at_putG (by rfl) _ _ (by rfl) g2 (by rfl) V.s (by rfl) _ r2 ?_; intro w3 r3 s3))
  refine bodyPost_ret (retG1 Tryz.results13 rfl r3) rfl ⟨rfl, ((Stp.of_below b2 (fun _ => False)).next s3 (fun x e => .inr (by omega))).below (Nat.le_refl _) (fun x e => e.elim)⟩
set_option maxRecDepth 100000 in
set_option maxHeartbeats 2000000 in
theorem vnow_any (H : Vx u A V U E F) (ok : VOk t k V) (ht : t ≤ 8990) (i : Int) (hi : wfi i) (hT : ∀ x, T x ↔ Vt A U E F x) :
    Calls Tryz.prog 37 #[.pointer (some ⟨A.v, 0, none⟩), .int .i64 i] u fun e w' => e = .returned (.tuple #[.agg (V.nowB i).cs.toArray, .int .i64 (V.nowE i)]) ∧ VG A (V.look i) T u w' := by
  have hG := fun w' (b : Below u.heap.size u w') => get_ca (H.later b).ca ok.c (by omega) i hi
  have hp := (ok.p.hold i).ex
  have hlt := H.lt
  have n6 := ok.n6
  have t1 : Hid True := trivial
  unfold VZ.nowB VZ.nowE VZ.look
  by_cases he : V.c.holdE i = 0
  · rw [if_pos he, if_pos he]
    rw [he] at hG
    have hgl := (V.c.got i).len
    generalize V.c.got i = B0 at *
    have hR := (nwB B0 (wtP V.g.l i)).len
    have hNow : ∀ w (s : Sv), PsL w s (wtP V.g.l i) → _ := fun w s h => now_L h B0
    generalize nwB B0 (wtP V.g.l i) = R at *
    generalize nwE (wtP V.g.l i) = e1 at *
    go_enter Tryz.func37, Tryz.ntmps37
    go_wp2_with (first
      | (clear t1; refine at_new 88 64 arrB (by rfl) (by rfl) ?_; intro gr w1 a1 z1 r1 b1
         have H1 := H.later b1
         obtain ⟨y0, -, -, -, -, -, -, -⟩ := H1.cells)
      | (go_at_call 62; refine (hG _ b1).mono ?_; rintro e w2 ⟨rfl, k2⟩; clear hG
         obtain ⟨U2, H2, s2, g2⟩ := H1.ofC k2 hp
         have r12 := r1.step s2 (fun hx => by have := H.ca.lt gr hx; omega)
         clear y0 k2 H1)
      | (refine at_new 88 64 arrB (by rfl) (by rfl) ?_; intro gb w3 a3 z3 r3 b3)
      | (refine at_put 88 64 arrB (by rfl) _ _ (by rfl) gb (by rfl) B0.l (by rfl) hgl _ r3 (by simp) ?_; intro W r4 s4))
    have hw1 := b1.size
    have hw2 := s2.size
    have hgb : gb ≠ gr := by omega
    have nU : ¬ Vt A U2 E F gr := fun hx => by
      rcases hx with h | h
      · rcases g2 gr h with e | e
        · have := H.ca.lt gr e; omega
        · omega
      · have := hlt gr (.inr h); omega
    have H3 : Vx W A { V with c := V.c.hold i } U2 E F := (H2.later b3).step s4 (fun x hx e => by subst e; have := H2.lt _ hx; omega)
    have r5 : Row W gr (List.replicate 64 0) := (r12.later b3).step s4 (fun e => by omega)
    have S4 : Stp T u W := (((Stp.of_below b1 T).next s2 (fun x hx => .inl ((hT x).2 (.inl hx)))).trans (Stp.of_below b3 T)).next s4 (fun x hx => .inr (by subst hx; omega))
    have HV : ∀ x, Stp (fun y => y = gr) W x → Vx x A { V with c := V.c.hold i } U2 E F := fun x hx => H3.step hx (fun y hy e => by subst e; exact nU hy)
    have gU : ∀ x, Vt A U2 E F x → T x ∨ u.heap.size ≤ x := Vt.more hT (fun x hx => by rcases g2 x hx with e | e; exact .inl e; exact .inr (by omega)) (fun x hx => .inl hx) (fun x hx => .inl hx)
    have hgr : u.heap.size ≤ gr := a1
    clear r12 r3 s4 b3 r1 H2 s2 g2 b1 hlt nU
    have r5d : Row W.drew gr (List.replicate 64 0) := r5.later (Below.refl _ _).drew
    go_wp2_with fail
    refine wp_region_held_drew (S := fun u => Stp (fun x => x = gr) W u) (by kernel_rfl) (Stp.refl _ _).drew (fun hHeld => ?_)
    refine tm 0 (.agg B0.cs.toArray) rfl
      (yields_row 88 64 arrB (by rfl) (.tmp 6) rfl gb (by rfl) B0.l hgl (fun u hu => r4.step hu hgb)) ?_
    try simp only [z]
    refine tl 1 (.pointer (some ⟨A.v, 0, none⟩)) rfl ?_
    try simp only [z]
    refine tl 2 (.pointer (some ⟨A.v, 0, none⟩)) rfl ?_
    try simp only [z]
    refine tl 3 (.pointer (some ⟨A.v, 1, none⟩)) rfl ?_
    try simp only [z]
    refine tl 4 (.pointer (some ⟨A.v, 1, none⟩)) rfl ?_
    try simp only [z]
    refine tl 5 (.pointer (some ⟨A.g, 0, none⟩)) rfl ?_ (fun u hu => by have x1 := (HV _ hu).cells.2.1; go_simp)
    try simp only [z]
    refine tl 6 (.int .i64 i) rfl ?_
    try simp only [z]
    refine rd 7 rfl (fun K hK => ?_)
    go_simp
    refine (of_L (HV _ hHeld).gh i hi n6).mono ?_
    rintro e v3 ⟨⟨na, nn, nc⟩, rfl, P3, c3⟩
    have yr := r5d.later c3
    try go_wp2_with fail
    refine hK.out _ _ (hHeld.trans (Stp.of_below c3 _)) (fun hHeld => ?_)
    clear hK K
    try simp only [z]
    refine rd 8 rfl (fun K hK => ?_)
    go_simp
    refine (hNow _ _ P3).mono ?_
    rintro e v4 ⟨rfl, c4⟩
    have yr2 := yr.later c4
    try go_wp2_with fail
    refine hK.out _ _ (hHeld.trans (Stp.of_below c4 _)) (fun hHeld => ?_)
    clear hK K
    try simp only [z]
    refine tl 9 (.agg R.cs.toArray) rfl ?_
    try simp only [z]
    refine tl 10 (.int .i64 e1) rfl ?_
    try simp only [z]
    refine rd 11 rfl (fun K hK => ?_)
    refine step_put 88 64 arrB rfl (.tmp 4) (.tmp 33) rfl gr (by rfl) R.l (by rfl) hR _ yr2 (by simp) ?_
    intro v7 y7 s7
    refine hK.out _ _ (hHeld.trans s7) (fun hHeld => ?_)
    clear hK K
    try simp only [Act.put]
    refine tl 12 (.int .i64 e1) rfl ?_
    try simp only [z]
    refine wpAnyH_done (by kernel_rfl) ?_ _
    go_wp2_with fail
    refine bodyPost_ret (retAt arrB Tryz.results37 rfl rfl y7 hR) rfl ⟨rfl, VG.is (HV _ hHeld) (S4.next hHeld (fun x hx => .inr (by subst hx; exact hgr))) gU⟩
  · rw [if_neg he, if_neg he]
    generalize hE0 : V.c.holdE i = e0 at *
    generalize V.c.got i = B0 at *
    have hgl := B0.len
    clear hE0
    go_enter Tryz.func37, Tryz.ntmps37
    go_wp2_with (first
      | (clear t1; refine at_new 88 64 arrB (by rfl) (by rfl) ?_; intro gr w1 a1 z1 r1 b1
         have H1 := H.later b1
         obtain ⟨y0, -, -, -, -, -, -, -⟩ := H1.cells)
      | (go_at_call 62; refine (hG _ b1).mono ?_; rintro e w2 ⟨rfl, k2⟩; clear hG
         obtain ⟨U2, H2, s2, g2⟩ := H1.ofC k2 hp
         have r12 := r1.step s2 (fun hx => by have := H.ca.lt gr hx; omega)
         clear y0 k2 H1)
      | (refine at_new 88 64 arrB (by rfl) (by rfl) ?_; intro gb w3 a3 z3 r3 b3)
      | (refine at_bldB (by rfl) (by rfl) ?_)
      | (refine at_put 88 64 arrB (by rfl) _ _ (by rfl) gb (by rfl) B0.l (by rfl) hgl _ r3 (by simp) ?_; intro W r4 s4
         have r5 : Row W gr (List.replicate 64 0) := (r12.later b3).step s4 (fun e => by have := s2.size; omega))
      | (refine at_put 88 64 arrB (by rfl) _ _ (by rfl) gr (by rfl) Blk.zero.l (by rfl) Blk.zero.len _ r5 (by simp) ?_; intro W6 r6 s6))
    have hw1 := b1.size
    have hw2 := s2.size
    have hw3 := b3.size
    have nU : ¬ Vt A U2 E F gr := fun hx => by
      rcases hx with h | h
      · rcases g2 gr h with e | e
        · have := H.ca.lt gr e; omega
        · omega
      · have := hlt gr (.inr h); omega
    have H3 : Vx W A { V with c := V.c.hold i } U2 E F := (H2.later b3).step s4 (fun x hx e => by subst e; have := H2.lt _ hx; omega)
    have S4 : Stp T u W := (((Stp.of_below b1 T).next s2 (fun x hx => .inl ((hT x).2 (.inl hx)))).trans (Stp.of_below b3 T)).next s4 (fun x hx => .inr (by subst hx; omega))
    have gU : ∀ x, Vt A U2 E F x → T x ∨ u.heap.size ≤ x := Vt.more hT (fun x hx => by rcases g2 x hx with e | e; exact .inl e; exact .inr (by omega)) (fun x hx => .inl hx) (fun x hx => .inl hx)
    have hgr : u.heap.size ≤ gr := a1
    refine bodyPost_ret (retAt arrB Tryz.results37 rfl rfl r6 Blk.zero.len) rfl ⟨rfl, VG.is (H3.step s6 (fun y hy e => by subst e; exact nU hy)) (S4.next s6 (fun x hx => .inr (by subst hx; exact hgr))) gU⟩
end
section
variable {u : World} {A : VA} {V : VZ} {U E F T X : Nat → Prop} {t k : Nat}
theorem grp_lt (V : VZ) (x : Int) : V.grp x < 8 ∧ ((V.grp x : Nat) : Int) = V.s.pg x := by
  have h : 0 ≤ V.s.pg x ∧ V.s.pg x < 8 := by
    by_cases hx : V.s.hasW x
    · by_cases h2 : 2 ≤ x
      · obtain ⟨h1, h3, h4, h5, h6, h7⟩ := V.s.wF hx h2
        obtain ⟨_, g8, _⟩ := h1
        omega
      · unfold Gm.pg; rw [if_pos hx, if_pos (by omega)]; omega
    · unfold Gm.pg; rw [if_neg hx]; omega
  unfold VZ.grp
  omega
theorem vmark_any (H : Vx u A V U E F) (ok : VOk t k V) (ht : t ≤ 9000) (n : Nat) (hn : n < 8) :
    Calls Tryz.prog 72 #[.pointer (some ⟨A.w, 0, none⟩), .int .i64 (n : Int)] u fun e w' => e = .returned (.int .i64 (V.mrkE n)) ∧ Vx w' A (V.mrk n) U E F ∧ Stp (fun x => x = A.w ∨ U x) u w' := by
  obtain ⟨e, h1, h2⟩ := H.p
  refine (mark_any A.w n V.w (some A.s) V.p u H.ww h1 H.tb (ok.c.okk (k := 3) (by omega) e) hn (fun h => by injection h with h; exact H.uw.1 (h ▸ h2)) (fun y hy => by
    have : y ∈ [A.s] := hy
    rw [List.mem_singleton] at this; subst this; exact H.ca.lt _ h2)).mono ?_
  rintro e w' ⟨rfl, k1, k2, k3⟩
  obtain ⟨h3, h4⟩ := H.ofW k1 k2 k3
  exact ⟨rfl, h3, h4⟩
theorem add_L {w : World} {g : Nat} {Z : GZ} {E F X : Nat → Prop} (H : Gh w g Z E F) (p : Pt) (d n : Sv) (hp : p.wfp) (hpm : PtM w X p d n) (hX : ∀ x, X x → ¬ F x) (hlt : Z.last < 2000) (hd : p.data.length ≤ 100000) (hn : p.needs.length ≤ 100000) :
    Calls Tryz.prog 71 #[.pointer (some ⟨g, 0, none⟩), .agg (p.cs d n).toArray] w fun e w' => e = .returned (.tuple #[.int .i64 (Z.addN p), .int .i64 (Z.addE p)]) ∧ ∃ E' F', Gh w' g (Z.add p) E' F' ∧ Stp F w w' ∧ Grew F F' w w' ∧ Grew E E' w w' := by
  obtain ⟨mp, mw, f, fw, hg⟩ := H
  exact add_any hg p d n hp hpm hX hlt hd hn
set_option maxRecDepth 100000 in
set_option maxHeartbeats 4000000 in
theorem vpatch_any (H : Vx u A V U E F) (ok : VOk t k V) (ht : t ≤ 8990) (hk : k < 2000) (hT : ∀ x, T x ↔ Vt A U E F x) (p : Pt) (d n : Sv) (hp : p.wfp) (hpm : PtM u X p d n) (hX : ∀ x, X x → ¬ F x) (hd : p.data.length ≤ 100000) (hn : p.needs.length ≤ 6) :
    Calls Tryz.prog 42 #[.pointer (some ⟨A.v, 0, none⟩), .agg (p.cs d n).toArray] u fun e w' => e = .returned (.tuple #[.int .i64 (V.patN p), .int .i64 (V.patE p)]) ∧ VG A (V.pat p) T u w' := by
  have hGp := fun w' (b : Below u.heap.size u w') => vgroup_any (H.later b) p.at'
  obtain ⟨g8, gI⟩ := grp_lt V p.at'
  have hla := ok.la
  have hAdd := fun w' (b : Below u.heap.size u w') => add_L (H.later b).gh p d n hp (hpm.later b) hX (by omega) hd (by omega)
  rw [← gI] at hGp
  have hE1 : V.hasG p.at' = false → V.patE p = 2 ∧ V.patN p = 0 ∧ V.pat p = V := fun h => by
    have e : V.patE p = 2 := by unfold VZ.patE; rw [h]; rfl
    refine ⟨e, ?_, ?_⟩
    · unfold VZ.patN; rw [e]; rfl
    · unfold VZ.pat; rw [h]; rfl
  have hE2 : V.hasG p.at' = true → V.g.addOk p = false → V.patE p = 2 ∧ V.patN p = 0 ∧ V.pat p = V ∧ V.g.addE p = 2 ∧ V.g.add p = V.g := fun h h2 => by
    have e : V.patE p = 2 := by unfold VZ.patE; rw [h, h2]; rfl
    refine ⟨e, ?_, ?_, ?_, ?_⟩
    · unfold VZ.patN; rw [e]; rfl
    · unfold VZ.pat; rw [h, h2]; rfl
    · unfold GZ.addE; rw [h2]; rfl
    · unfold GZ.add; rw [h2]; rfl
  have hE3 : V.hasG p.at' = true → V.g.addOk p = true → V.patE p = V.mrkE (V.grp p.at') ∧ V.patN p = (if V.mrkE (V.grp p.at') = 0 then V.g.last + 1 else 0) ∧ V.pat p = { V with g := V.g.add p }.mrk (V.grp p.at') ∧ V.g.addE p = 0 ∧ V.g.addN p = V.g.last + 1 := fun h h2 => by
    have e : V.patE p = V.mrkE (V.grp p.at') := by unfold VZ.patE; rw [h, h2]; rfl
    refine ⟨e, ?_, ?_, ?_, ?_⟩
    · unfold VZ.patN; rw [e]
    · unfold VZ.pat; rw [h, h2]; rfl
    · unfold GZ.addE; rw [h2]; rfl
    · unfold GZ.addN; rw [h2]; rfl
  have hok2 : VOk t (k + 1) { V with g := V.g.add p } := ok.add p hn
  have hlt := H.lt
  generalize hm : V.grp p.at' = m at *
  clear gI hm
  have hR : ∀ (w2 w3 : World) (E' F' : Nat → Prop), Vx w2 A { V with g := V.g.add p } U E' F' → Stp T u w2 → (∀ x, Vt A U E' F' x → T x ∨ u.heap.size ≤ x) → Vx w3 A ({ V with g := V.g.add p }.mrk m) U E' F' → Stp (fun x => x = A.w ∨ U x) w2 w3 → VG A ({ V with g := V.g.add p }.mrk m) T u w3 := fun w2 w3 E' F' h2 s2 g2 h3 s3 =>
    VG.is h3 (s2.next s3 (fun x hx => .inl ((hT x).2 (by rcases hx with e | e; subst e; unfold Vt; simp; exact .inl e)))) g2
  cases hg : V.hasG p.at'
  · obtain ⟨e1, e2, e3⟩ := hE1 hg
    rw [e1, e2, e3]
    rw [hg] at hGp
    clear e1 e2 e3 hE1 hE2 hE3 hAdd hR hok2
    go_enter Tryz.func42, Tryz.ntmps42
    go_wp2_with (first
      | (refine at_boxP (by rfl) _ (by rfl) p d n (by rfl) ?_; intro g1 w1 a1 z1 r1 b1; have c1 := r1.cell 1 _ rfl)
      | (go_at_call 70; refine (hGp _ b1).mono ?_; rintro e w2 ⟨rfl, b2⟩))
    go_returns
    exact ⟨rfl, VG.is (H.later (bnext b1 b2 (Nat.le_refl _))) (Stp.of_below (bnext b1 b2 (Nat.le_refl _)) T) (fun x hx => .inl ((hT x).2 hx))⟩
  · rw [hg] at hGp
    have hH : Hid (V.g.addE p = 0 → V.g.addOk p = true) := fun h => by
      unfold GZ.addE at h
      cases ha : V.g.addOk p
      · rw [ha] at h; cases h
      · rfl
    have hH2 : Hid (V.g.addE p ≠ 0 → V.g.addOk p = false) := fun h => by
      unfold GZ.addE at h
      cases ha : V.g.addOk p
      · rfl
      · rw [ha] at h; exact absurd rfl h
    have hE2' : Hid (V.g.addOk p = false → V.patE p = 2 ∧ V.patN p = 0 ∧ V.pat p = V ∧ V.g.addE p = 2 ∧ V.g.add p = V.g) := hE2 hg
    have hE3' : Hid (V.g.addOk p = true → V.patE p = V.mrkE m ∧ V.patN p = (if V.mrkE m = 0 then V.g.last + 1 else 0) ∧ V.pat p = { V with g := V.g.add p }.mrk m ∧ V.g.addE p = 0 ∧ V.g.addN p = V.g.last + 1) := hE3 hg
    have hok' : Hid (VOk t (k + 1) { V with g := V.g.add p }) := hok2
    have hadd0 : Hid (V.g.addE p = V.g.addE p ∧ V.g.addN p = V.g.addN p) := ⟨rfl, rfl⟩
    clear hE1 hE2 hE3 hok2 hadd0
    obtain ⟨e1, he1⟩ : ∃ e1, Hid (V.g.addE p = e1) := ⟨_, rfl⟩
    obtain ⟨N0, hN0⟩ : ∃ e1, Hid (V.g.addN p = e1) := ⟨_, rfl⟩
    rw [he1.out, hN0.out] at hAdd
    obtain ⟨rN, hrN⟩ : ∃ r, Hid (V.patN p = r) := ⟨_, rfl⟩
    obtain ⟨rE, hrE⟩ : ∃ r, Hid (V.patE p = r) := ⟨_, rfl⟩
    rw [hrN.out, hrE.out]
    go_enter Tryz.func42, Tryz.ntmps42
    go_wp2_with (first
      | (refine at_boxP (by rfl) _ (by rfl) p d n (by rfl) ?_; intro g1 w1 a1 z1 r1 b1; have c1 := r1.cell 1 _ rfl)
      | (go_at_call 70; refine (hGp _ b1).mono ?_; rintro e w2 ⟨rfl, b2⟩))
    have B2 := bnext b1 b2 (Nat.le_refl _)
    have H2 := H.later B2
    have r2 := r1.step (Stp.of_below b2 (fun _ => False)) id
    have hg1 : ¬ F g1 := fun hf => by have := H.gh.lt.1 g1 hf; omega
    clear hGp c1 r1 b1 b2
    refine wp_region_held_drew (S := fun x => Stp F w2 x) (by kernel_rfl) (Stp.refl _ _).drew (fun hHeld => ?_)
    refine tl 0 (.pointer (some ⟨A.v, 0, none⟩)) rfl ?_
    try simp only [z]
    refine tl 1 (.pointer (some ⟨A.v, 0, none⟩)) rfl ?_
    try simp only [z]
    refine tl 2 (.pointer (some ⟨A.v, 1, none⟩)) rfl ?_
    try simp only [z]
    refine tl 3 (.pointer (some ⟨A.v, 1, none⟩)) rfl ?_
    try simp only [z]
    refine tl 4 (.pointer (some ⟨A.g, 0, none⟩)) rfl ?_ (fun u hu => by have x1 := (H2.c.step hu H2.uv.2.2.1).cell 1 _ rfl; go_simp)
    try simp only [z]
    refine tm 5 (.agg (p.cs d n).toArray) rfl
      (yields_P (by rfl) _ (by rfl) g1 (by rfl) p d n (fun x hx => r2.step hx hg1)) ?_
    try simp only [z]
    refine rd 6 rfl (fun K hK => ?_)
    go_simp
    refine (hAdd _ (bnext B2 (Below.refl _ _).drew (Nat.le_refl _))).mono ?_
    rintro e v3 ⟨rfl, E3, F3, q1, q2, q3, q4⟩
    try go_wp2_with fail
    refine hK.out _ _ ((Stp.refl F w2).drew.trans q2) (fun hHeld => ?_)
    clear hK K
    try simp only [z]
    refine tl 7 (.tuple #[.int .i64 N0, .int .i64 e1]) rfl ?_
    try simp only [z]
    refine tl 8 (.int .i64 N0) rfl ?_
    try simp only [z]
    refine tl 9 (.int .i64 e1) rfl ?_
    try simp only [z]
    refine tl 10 (.int .i64 N0) rfl ?_
    try simp only [z]
    refine tl 11 (.int .i64 e1) rfl ?_
    try simp only [z]
    refine wpAnyH_done (by kernel_rfl) ?_ _
    have H3 : Vx v3 A { V with g := V.g.add p } U E3 F3 := (H2.later (Below.refl _ _).drew).ofG q1 q2 q4 q3
    have S3 : Stp T u v3 := (Stp.of_below (bnext B2 (Below.refl _ _).drew (Nat.le_refl _)) T).next q2 (fun x hx => .inl ((hT x).2 (.inr (.inr (.inl hx)))))
    have g3 : ∀ x, Vt A U E3 F3 x → T x ∨ u.heap.size ≤ x := Vt.more hT (fun x hx => .inl hx) (fun x hx => by rcases q4 x hx with e | e; exact .inl e; exact .inr (by have := B2.size; have : w2.drew.heap.size = w2.heap.size := rfl; omega)) (fun x hx => by rcases q3 x hx with e | e; exact .inl e; exact .inr (by have := B2.size; have : w2.drew.heap.size = w2.heap.size := rfl; omega))
    clear hAdd q1 q2 q3 q4 r2 H2 hHeld
    by_cases h0 : e1 = 0
    · subst h0
      obtain ⟨f1, f2, f3, f4, f5⟩ := hE3'.out (hH.out he1.out)
      have hM := vmark_any H3 hok'.out (by omega) m g8
      have y3 := H3.cells.2.2.2.1
      have hrr : Hid (rE = V.mrkE m ∧ rN = (if V.mrkE m = 0 then V.g.last + 1 else 0) ∧ N0 = V.g.last + 1 ∧ V.pat p = { V with g := V.g.add p }.mrk m) := ⟨by rw [← hrE.out, f1], by rw [← hrN.out, f2], by rw [← hN0.out, f5], f3⟩
      have hmE : ({ V with g := V.g.add p } : VZ).mrkE m = V.mrkE m := rfl
      rw [hmE] at hM
      obtain ⟨mE, hmE'⟩ : ∃ r, Hid (V.mrkE m = r) := ⟨_, rfl⟩
      rw [hmE'.out] at hM
      clear f1 f2 f3 f4 f5 hmE
      by_cases hm0 : mE = 0
      · subst hm0
        go_wp2_with (first
          | (go_at_call 72; refine hM.mono ?_; rintro e w4 ⟨rfl, H4, s4⟩; clear hM))
        go_returns
        obtain ⟨p1, p2, p3, p4⟩ := hrr.out
        exact ⟨by rw [p1, p2, p3, hmE'.out]; rfl, by rw [p4]; exact hR _ _ _ _ H3 S3 g3 H4 s4⟩
      · have hd0 : ¬ mE = 0 := hm0
        go_wp2_with (first
          | (go_at_call 72; refine hM.mono ?_; rintro e w4 ⟨rfl, H4, s4⟩; clear hM))
        go_returns
        obtain ⟨p1, p2, p3, p4⟩ := hrr.out
        exact ⟨by rw [p1, p2, hmE'.out, if_neg hm0]; rfl, by rw [p4]; exact hR _ _ _ _ H3 S3 g3 H4 s4⟩
    · obtain ⟨f1, f2, f3, f4, f5⟩ := hE2'.out (hH2.out (by rw [he1.out]; exact h0))
      have hrr : Hid (rE = 2 ∧ rN = 0 ∧ e1 = 2 ∧ V.pat p = V ∧ V.g.add p = V.g) := ⟨by rw [← hrE.out, f1], by rw [← hrN.out, f2], by rw [← he1.out, f4], f3, f5⟩
      clear f1 f2 f3 f4 f5
      go_wp2_with fail
      go_returns
      obtain ⟨p1, p2, p3, p4, p5⟩ := hrr.out
      refine ⟨by rw [p1, p2, p3]; rfl, ?_⟩
      rw [p4]
      rw [p5] at H3
      exact VG.is H3 S3 g3
end
end Go.Proofs.YtgdnhkdfcjpdiaaGreatDoor
