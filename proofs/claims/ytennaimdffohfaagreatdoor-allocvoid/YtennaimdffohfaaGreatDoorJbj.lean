/-
  Texts of my own, joined: no statement is proved here.
-/
import Derived.BigQuiet
import Derived.Test.YtennaimdffohfaaGreatDoorJas
import Derived.Test.YtennaimdffohfaaGreatDoorJau
import Derived.Test.YtennaimdffohfaaGreatDoorJbd
import Derived.Test.YtennaimdffohfaaGreatDoorJbh
import Derived.Test.YtennaimdffohfaaGreatDoorJbi
set_option linter.unusedSimpArgs false
set_option linter.unusedVariables false
namespace Go.Proofs.YtennaimdffohfaaGreatDoor
open Go.ChangeShapes Go.WideShapes Go.ChangeAt Go.RowKit
structure Frl where
  a : List Int
  q : List (Int × Int × Int)
structure VZ where
  c : CZ
  w : WS
  g : GZ
  s : Gm
  fr : List Frl
def VZ.p (V : VZ) : PS := V.c.p.getD PS.fresh
def VZ.hasG (V : VZ) (x : Int) : Bool := decide (V.s.werr x = 0) && decide (V.s.pk x ≠ 1)
def VZ.grp (V : VZ) (x : Int) : Nat := (V.s.pg x).toNat
def VZ.mrkE (V : VZ) (n : Nat) : Int := markErr V.w n V.p
def VZ.mrk (V : VZ) (n : Nat) : VZ := { V with w := V.w.mark n V.p, c := { V.c with p := some (markP V.w n V.p) } }
def VZ.patE (V : VZ) (p : Pt) : Int := if V.hasG p.at' then (if V.g.addOk p then V.mrkE (V.grp p.at') else 2) else 2
def VZ.patN (V : VZ) (p : Pt) : Int := if V.patE p = 0 then V.g.last + 1 else 0
def VZ.pat (V : VZ) (p : Pt) : VZ := if V.hasG p.at' then (if V.g.addOk p then { V with g := V.g.add p }.mrk (V.grp p.at') else V) else V
def VZ.nowE (V : VZ) (i : Int) : Int := if V.c.holdE i = 0 then nwE (wtP V.g.l i) else V.c.holdE i
def VZ.nowB (V : VZ) (i : Int) : Blk := if V.c.holdE i = 0 then nwB (V.c.got i) (wtP V.g.l i) else Blk.zero
def VZ.look (V : VZ) (i : Int) : VZ := { V with c := V.c.hold i }
section
variable {u u' : World} {gc g s : Nat} {Z : CZ} {U B : Nat → Prop} {p p' : PS}
theorem Ca.sup (h : Ca u gc g (.pointer (some ⟨s, 0, none⟩)) Z U) (hp : Z.p = some p) : Pw u s p ∧ U s := by
  obtain ⟨mp, ov, f, E, F, G, H, hU⟩ := h
  have hs := H.dd.s
  rw [hp] at hs
  obtain ⟨gp, e, h1, h2⟩ := hs
  injection e with e; injection e with e; injection e with e; subst e
  exact ⟨h1, (hU _).2 (.inr (.inr h2))⟩
theorem Ca.setp (h : Ca u gc g (.pointer (some ⟨s, 0, none⟩)) Z U) (hp : Z.p = some p) (k : Stp B u u') (hB : ∀ x, U x → B x → x = s) (h' : Pw u' s p') : Ca u' gc g (.pointer (some ⟨s, 0, none⟩)) { Z with p := some p' } U := by
  obtain ⟨mp, ov, f, E, F, G, H, hU⟩ := h
  have hs := H.dd.s
  rw [hp] at hs
  obtain ⟨gp, e, h1, h2⟩ := hs
  injection e with e; injection e with e; injection e with e; subst e
  refine ⟨mp, ov, f, E, F, G, ⟨⟨H.dd.d.step k (fun x hx hb => ?_), ⟨s, rfl, h', h2⟩, H.dd.fg, fun x hx => Nat.lt_of_lt_of_le (H.dd.gl x hx) k.size⟩, H.cm.step k (fun x hx hb => ?_), H.ef, H.eg⟩, hU⟩
  · have := hB x ((hU x).2 (.inr (.inl hx))) hb; subst this; exact H.dd.fg x hx h2
  · have := hB x ((hU x).2 (.inl hx)) hb; subst this; exact H.eg x hx h2
end
structure VA where
  v : Nat
  c : Nat
  g : Nat
  d : Nat
  w : Nat
  s : Nat
  z : Option Obj
def VA.cs (A : VA) (s : Gm) : List Value := [.pointer (some ⟨A.c, 0, none⟩), .pointer (some ⟨A.g, 0, none⟩), .pointer (some ⟨A.d, 0, none⟩), .pointer (some ⟨A.w, 0, none⟩), .int .i64 s.g, .int .i64 s.i, .int .i64 s.d, .slice none 0 0]
structure Vx (u : World) (A : VA) (V : VZ) (U E F : Nat → Prop) : Prop where
  c : Cs u A.v (A.cs V.s)
  ca : Ca u A.c A.d (.pointer (some ⟨A.s, 0, none⟩)) V.c U
  ps : ∃ p, V.c.p = some p
  ww : Ww u A.w V.w (some A.s)
  gh : Gh u A.g V.g E F
  tb : Tab u
  z0 : u.heap[0]? = A.z
  so : V.s.ok
  f0 : V.fr = []
  uv : ¬ U A.v ∧ ¬ E A.v ∧ ¬ F A.v ∧ A.v ≠ A.w ∧ A.v ≠ 0
  uw : ¬ U A.w ∧ ¬ E A.w ∧ ¬ F A.w ∧ A.w ≠ 0
  ue : ∀ x, U x → ¬ E x ∧ ¬ F x
  uz : ¬ U 0 ∧ ¬ E 0 ∧ ¬ F 0
def Vt (A : VA) (U E F : Nat → Prop) : Nat → Prop := fun x => U x ∨ E x ∨ F x ∨ x = A.v ∨ x = A.w ∨ x = 0
section
variable {u u' : World} {A : VA} {V : VZ} {U E F B : Nat → Prop}
theorem Ww.stp {g : Nat} {x : WS} {s : Option Nat} (h : Ww u g x s) (k : Stp B u u') (hg : ¬ B g) : Ww u' g x s :=
  ⟨k.cell h.c0 hg, k.cell h.c1 hg, k.cell h.c2 hg, k.cell h.c3 hg, by rw [k.frozen (p := ⟨g, 0, none⟩) h.lt hg]; exact h.f0, by rw [k.frozen (p := ⟨g, 1, none⟩) h.lt hg]; exact h.f1, by rw [k.frozen (p := ⟨g, 2, none⟩) h.lt hg]; exact h.f2, h.l0, h.l1, h.l2⟩
theorem Tab.stp (h : Tab u) (k : Stp B u u') (hB : ¬ B 0) : Tab u' := ⟨k.cell h.c0 hB, k.cell h.c1 hB, k.cell h.c2 hB⟩
theorem Gh.stp {g : Nat} {Z : GZ} (H : Gh u g Z E F) (k : Stp B u u') (hF : ∀ x, F x → ¬ B x) (hE : ∀ x, E x → ¬ B x) : Gh u' g Z E F := by
  obtain ⟨_, _, _, _, H⟩ := H; exact ⟨_, _, _, _, H.step k hF hE⟩
theorem Vx.step (H : Vx u A V U E F) (k : Stp B u u') (hB : ∀ x, Vt A U E F x → ¬ B x) : Vx u' A V U E F :=
  ⟨H.c.step k (hB _ (by unfold Vt; simp)), H.ca.step k (fun x hx => hB x (.inl hx)), H.ps, H.ww.stp k (hB _ (by unfold Vt; simp)), H.gh.stp k (fun x hx => hB x (.inr (.inr (.inl hx)))) (fun x hx => hB x (.inr (.inl hx))), H.tb.stp k (hB _ (by unfold Vt; simp)), by rw [k.block 0 H.tb.lt (hB _ (by unfold Vt; simp))]; exact H.z0, H.so, H.f0, H.uv, H.uw, H.ue, H.uz⟩
theorem Vx.later (H : Vx u A V U E F) (k : Below u.heap.size u u') : Vx u' A V U E F := H.step (Stp.of_below k (fun _ => False)) (fun _ _ => id)
theorem Vx.p (H : Vx u A V U E F) : V.c.p = some V.p ∧ Pw u A.s V.p ∧ U A.s := by
  obtain ⟨p, hp⟩ := H.ps
  have e : V.p = p := by unfold VZ.p; rw [hp]; rfl
  rw [e]
  obtain ⟨h1, h2⟩ := H.ca.sup hp
  exact ⟨hp, h1, h2⟩
theorem Vx.lt (H : Vx u A V U E F) : ∀ x, Vt A U E F x → x < u.heap.size := by
  intro x hx
  rcases hx with h | h | h | h | h | h
  · exact H.ca.lt x h
  · exact H.gh.lt.2.1 x h
  · exact H.gh.lt.1 x h
  · rw [h]; exact H.c.lt
  · rw [h]; exact H.ww.lt
  · rw [h]; exact H.tb.lt
theorem Vx.cells (H : Vx u A V U E F) : u.cell? ⟨A.v, 0, none⟩ = some (.pointer (some ⟨A.c, 0, none⟩)) ∧ u.cell? ⟨A.v, 1, none⟩ = some (.pointer (some ⟨A.g, 0, none⟩)) ∧ u.cell? ⟨A.v, 2, none⟩ = some (.pointer (some ⟨A.d, 0, none⟩)) ∧ u.cell? ⟨A.v, 3, none⟩ = some (.pointer (some ⟨A.w, 0, none⟩)) ∧
    u.cell? ⟨A.v, 4, none⟩ = some (.int .i64 V.s.g) ∧ u.cell? ⟨A.v, 5, none⟩ = some (.int .i64 V.s.i) ∧ u.cell? ⟨A.v, 6, none⟩ = some (.int .i64 V.s.d) ∧ u.cell? ⟨A.v, 7, none⟩ = some (.slice none 0 0) :=
  ⟨H.c.cell 0 _ rfl, H.c.cell 1 _ rfl, H.c.cell 2 _ rfl, H.c.cell 3 _ rfl, H.c.cell 4 _ rfl, H.c.cell 5 _ rfl, H.c.cell 6 _ rfl, H.c.cell 7 _ rfl⟩
end
def Vo (u : World) (A : VA) (V : VZ) (T : Nat → Prop) : Prop := ∃ U E F, Vx u A V U E F ∧ ∀ x, T x ↔ Vt A U E F x
def VG (A : VA) (V' : VZ) (T : Nat → Prop) (w w' : World) : Prop := ∃ T', Vo w' A V' T' ∧ Stp T w w' ∧ Grew T T' w w'
section
variable {u u' u'' : World} {A : VA} {V V' V'' : VZ} {T T' B : Nat → Prop}
theorem Vo.step (h : Vo u A V T) (k : Stp B u u') (hB : ∀ x, T x → ¬ B x) : Vo u' A V T := by
  obtain ⟨U, E, F, H, hT⟩ := h
  exact ⟨U, E, F, H.step k (fun x hx => hB x ((hT x).2 hx)), hT⟩
theorem Vo.later (h : Vo u A V T) (k : Below u.heap.size u u') : Vo u' A V T := h.step (Stp.of_below k (fun _ => False)) (fun _ _ => id)
theorem Vo.lt (h : Vo u A V T) : ∀ x, T x → x < u.heap.size := by
  obtain ⟨U, E, F, H, hT⟩ := h
  exact fun x hx => H.lt x ((hT x).1 hx)
theorem VG.refl (h : Vo u A V T) : VG A V T u u := ⟨T, h, Stp.refl _ _, Grew.refl _ _ _⟩
theorem VG.low (h : Vo u A V T) (k : Below u.heap.size u u') : VG A V T u u' := ⟨T, h.later k, Stp.of_below k T, Grew.refl _ _ _⟩
theorem VG.and (h : VG A V' T u u') (k : ∀ T', Vo u' A V' T' → VG A V'' T' u' u'') : VG A V'' T u u'' := by
  obtain ⟨T', h1, h2, h3⟩ := h
  obtain ⟨T'', k1, k2, k3⟩ := k T' h1
  refine ⟨T'', k1, h2.next k2 (fun x hx => ?_), h3.trans k3 h2.size k2.size⟩
  rcases h3 x hx with e | e
  · exact .inl e
  · exact .inr e.1
theorem VG.seq (s : Stp T u u') (g : Grew T T' u u') (k : VG A V'' T' u' u'') : VG A V'' T u u'' := by
  obtain ⟨T'', k1, k2, k3⟩ := k
  refine ⟨T'', k1, s.next k2 (fun x hx => ?_), g.trans k3 s.size k2.size⟩
  rcases g x hx with e | e
  · exact .inl e
  · exact .inr e.1
theorem VG.stp (h : VG A V' T u u') : Stp T u u' := by obtain ⟨_, _, h, _⟩ := h; exact h
theorem VG.from (b : Below u.heap.size u u') (h : VG A V' T u' u'') : VG A V' T u u'' := VG.seq (Stp.of_below b T) (Grew.refl _ _ _) h
theorem VG.then (h : VG A V' T u u') (k : Below u'.heap.size u' u'') : VG A V' T u u'' := h.and fun T' H => VG.low H k
theorem Vx.ofC {U E F : Nat → Prop} {C' : CZ} (H : Vx u A V U E F) (h : Goes A.c A.d (.pointer (some ⟨A.s, 0, none⟩)) C' U u u') (hp : ∃ p, C'.p = some p) : ∃ U', Vx u' A { V with c := C' } U' E F ∧ Stp U u u' ∧ Grew U U' u u' := by
  obtain ⟨U', h1, h2, h3⟩ := h
  have far : ∀ x, U' x → U x ∨ u.heap.size ≤ x := fun x hx => by rcases h3 x hx with e | e; exact .inl e; exact .inr e.1
  have nE : ∀ x, E x → ¬ U x := fun x hx hu => (H.ue x hu).1 hx
  have nF : ∀ x, F x → ¬ U x := fun x hx hu => (H.ue x hu).2 hx
  have lt := H.lt
  refine ⟨U', ⟨H.c.step h2 H.uv.1, h1, hp, H.ww.stp h2 H.uw.1, H.gh.stp h2 nF nE, H.tb.stp h2 H.uz.1, by rw [h2.block 0 H.tb.lt H.uz.1]; exact H.z0, H.so, H.f0, ⟨fun hx => ?_, H.uv.2⟩, ⟨fun hx => ?_, H.uw.2⟩, fun x hx => ⟨fun he => ?_, fun hf => ?_⟩, fun hx => ?_, H.uz.2⟩, h2, h3⟩
  · rcases far _ hx with e | e
    · exact H.uv.1 e
    · have := H.c.lt; omega
  · rcases far _ hx with e | e
    · exact H.uw.1 e
    · have := H.ww.lt; omega
  · rcases far x hx with e | e
    · exact (H.ue x e).1 he
    · have := H.gh.lt.2.1 x he; omega
  · rcases far x hx with e | e
    · exact (H.ue x e).2 hf
    · have := H.gh.lt.1 x hf; omega
  · rcases far _ hx with e | e
    · exact H.uz.1 e
    · have := H.tb.lt; omega
theorem Vx.ofG {U E F E' F' : Nat → Prop} {G' : GZ} (H : Vx u A V U E F) (h : Gh u' A.g G' E' F') (k : Stp F u u') (gE : Grew E E' u u') (gF : Grew F F' u u') : Vx u' A { V with g := G' } U E' F' := by
  have fE : ∀ x, E' x → E x ∨ u.heap.size ≤ x := fun x hx => by rcases gE x hx with e | e; exact .inl e; exact .inr e.1
  have fF : ∀ x, F' x → F x ∨ u.heap.size ≤ x := fun x hx => by rcases gF x hx with e | e; exact .inl e; exact .inr e.1
  have l1 := H.c.lt
  have l2 := H.ww.lt
  have l3 := H.tb.lt
  refine ⟨H.c.step k H.uv.2.2.1, H.ca.step k (fun x hx => (H.ue x hx).2), H.ps, H.ww.stp k H.uw.2.2.1, h, H.tb.stp k H.uz.2.2, by rw [k.block 0 H.tb.lt H.uz.2.2]; exact H.z0, H.so, H.f0, ⟨H.uv.1, fun hx => ?_, fun hx => ?_, H.uv.2.2.2⟩, ⟨H.uw.1, fun hx => ?_, fun hx => ?_, H.uw.2.2.2⟩, fun x hx => ⟨fun hy => ?_, fun hy => ?_⟩, H.uz.1, fun hx => ?_, fun hx => ?_⟩
  · rcases fE _ hx with e | e
    · exact H.uv.2.1 e
    · omega
  · rcases fF _ hx with e | e
    · exact H.uv.2.2.1 e
    · omega
  · rcases fE _ hx with e | e
    · exact H.uw.2.1 e
    · omega
  · rcases fF _ hx with e | e
    · exact H.uw.2.2.1 e
    · omega
  · rcases fE x hy with e | e
    · exact (H.ue x hx).1 e
    · have := H.ca.lt x hx; omega
  · rcases fF x hy with e | e
    · exact (H.ue x hx).2 e
    · have := H.ca.lt x hx; omega
  · rcases fE _ hx with e | e
    · exact H.uz.2.1 e
    · omega
  · rcases fF _ hx with e | e
    · exact H.uz.2.2 e
    · omega
theorem Vx.ofW {U E F : Nat → Prop} {x' : WS} {p' : PS} (H : Vx u A V U E F) (k : Step (A.w :: (some A.s).toList) u u') (hw : Ww u' A.w x' (some A.s)) (hp : Sp u' (some A.s) p') : Vx u' A { V with w := x', c := { V.c with p := some p' } } U E F ∧ Stp (fun x => x = A.w ∨ U x) u u' := by
  obtain ⟨e, h1, h2⟩ := H.p
  have k' : Stp (fun x => x = A.w ∨ x = A.s) u u' := Stp.of_step k (fun x hx => by
    rcases List.mem_cons.1 hx with h | h
    · exact .inl (.inl h)
    · have : x ∈ [A.s] := h
      rw [List.mem_singleton] at this; exact .inl (.inr this))
  have ns : ∀ x, x = A.s → U x := fun x hx => by rw [hx]; exact h2
  have n0 : ¬ ((0 : Nat) = A.w ∨ (0 : Nat) = A.s) := fun hb => by
    rcases hb with h | h
    · exact H.uw.2.2.2 h.symm
    · exact H.uz.1 (ns _ h)
  refine ⟨⟨H.c.step k' (fun hx => ?_), H.ca.setp e k' (fun x hx hb => ?_) hp, ⟨p', rfl⟩, hw, H.gh.stp k' (fun x hx hb => ?_) (fun x hx hb => ?_), H.tb.stp k' n0, by rw [k'.block 0 H.tb.lt n0]; exact H.z0, H.so, H.f0, H.uv, H.uw, H.ue, H.uz⟩, k'.mono (fun x hx => by rcases hx with e | e; exact .inl (.inl e); exact .inl (.inr (ns x e)))⟩
  · rcases hx with h | h
    · exact H.uv.2.2.2.1 h
    · exact H.uv.1 (ns _ h)
  · rcases hb with h | h
    · rw [h] at hx; exact absurd hx H.uw.1
    · exact h
  · rcases hb with h | h
    · rw [h] at hx; exact H.uw.2.2.1 hx
    · exact (H.ue x (ns x h)).2 hx
  · rcases hb with h | h
    · rw [h] at hx; exact H.uw.2.1 hx
    · exact (H.ue x (ns x h)).1 hx
theorem VG.is {U E F : Nat → Prop} (H : Vx u' A V' U E F) (s : Stp T u u') (g : ∀ x, Vt A U E F x → T x ∨ u.heap.size ≤ x) : VG A V' T u u' :=
  ⟨Vt A U E F, ⟨U, E, F, H, fun _ => Iff.rfl⟩, s, fun x hx => (g x hx).imp_right fun h => ⟨h, H.lt x hx⟩⟩
theorem Vt.more {U U' E E' F F' : Nat → Prop} {N : Nat} (hT : ∀ x, T x ↔ Vt A U E F x) (h1 : ∀ x, U' x → U x ∨ N ≤ x) (h2 : ∀ x, E' x → E x ∨ N ≤ x) (h3 : ∀ x, F' x → F x ∨ N ≤ x) : ∀ x, Vt A U' E' F' x → T x ∨ N ≤ x := fun x hx => by
  rcases hx with h | h | h | h
  · rcases h1 x h with e | e
    · exact .inl ((hT x).2 (.inl e))
    · exact .inr e
  · rcases h2 x h with e | e
    · exact .inl ((hT x).2 (.inr (.inl e)))
    · exact .inr e
  · rcases h3 x h with e | e
    · exact .inl ((hT x).2 (.inr (.inr (.inl e))))
    · exact .inr e
  · exact .inl ((hT x).2 (.inr (.inr (.inr h))))
end
section
variable {Z : CZ} {i : Int} {b : Blk} {t : Nat}
def CZ.hasP (Z : CZ) : Prop := Z.p.isSome = true
theorem CZ.hasP.ex (h : Z.hasP) : ∃ p, Z.p = some p := Option.isSome_iff_exists.1 h
theorem useP_has {d : DS} {p : Option PS} (h : p.isSome = true) (i : Int) : (useP d p i).isSome = true := by
  unfold useP oUse
  split
  · rw [Option.isSome_map]; exact h
  · exact h
theorem CZ.hasP.wrt (h : Z.hasP) (i : Int) (q : Pg) : (Z.wrt i q).hasP := useP_has h i
theorem CZ.hasP.back (h : Z.hasP) (i : Int) : (Z.back i).hasP := by
  unfold CZ.back
  split
  · exact h
  · split
    · exact h.wrt _ _
    · exact h
theorem CZ.hasP.room (h : Z.hasP) : Z.room.hasP := by
  unfold CZ.room
  split
  · exact h
  · split
    · exact h
    · split
      · exact h.back _
      · exact h.back _
theorem CZ.hasP.hold (h : Z.hasP) (i : Int) : (Z.hold i).hasP := by
  unfold CZ.hold
  split
  · split
    · exact h
    · split
      · exact h.room
      · exact h.room
  · exact h
theorem CZ.ok.okk {p : PS} {k : Nat} (h : Z.ok t) (ht : t + k ≤ 1000000) (hp : Z.p = some p) : p.okk k := by
  have := h.sp p hp
  unfold okAt at this
  unfold PS.okk
  omega
theorem CZ.ok.setp {p' : PS} {t' : Nat} (h : Z.ok t) (ht : t ≤ t') (hp : okAt p' t') : CZ.ok t' { Z with p := some p' } :=
  ⟨h.n1, h.n2, h.nd, h.inn, h.len, fun e he => ⟨(h.pin e he).1, by have := (h.pin e he).2; omega⟩, fun i => Nat.le_trans (h.wt i) ht, fun s hs => by injection hs with hs; subst hs; exact hp⟩
theorem turn_okAt {p : PS} {k : Nat} (h : okAt p k) : okAt p.turn (k + 3) := by
  unfold PS.turn
  split
  · split
    · exact okAt_mono (use_okAt (use_okAt (use_okAt h))) (by omega)
    · exact okAt_mono (use_okAt (use_okAt h)) (by omega)
  · exact okAt_mono (use_okAt h) (by omega)
theorem markP_okAt {x : WS} {n : Nat} {p : PS} {k : Nat} (h : okAt p k) : okAt (markP x n p) (k + 3) := by
  unfold markP
  split
  · exact okAt_mono h (by omega)
  · exact turn_okAt h
end
structure VOk (t k : Nat) (V : VZ) : Prop where
  c : V.c.ok t
  p : V.c.hasP
  la : V.g.last ≤ (k : Int)
  n6 : ∀ p ∈ V.g.l, p.needs.length ≤ 6
section
variable {V : VZ} {t k t' k' : Nat} {i : Int} {b : Blk}
theorem VOk.mono (h : VOk t k V) (ht : t ≤ t') (hk : k ≤ k') : VOk t' k' V := ⟨h.c.mono ht, h.p, by have := h.la; omega, h.n6⟩
theorem VOk.look (h : VOk t k V) (i : Int) : VOk (t + 1) k (V.look i) := ⟨h.c.hold i, h.p.hold i, h.la, h.n6⟩
theorem VOk.vp (h : VOk t k V) : V.c.p = some V.p := by
  obtain ⟨p, hp⟩ := h.p.ex
  unfold VZ.p; rw [hp]; rfl
theorem VOk.mrk (h : VOk t k V) (n : Nat) : VOk (t + 3) k (V.mrk n) :=
  ⟨h.c.setp (by omega) (markP_okAt (h.c.sp _ h.vp)), rfl, h.la, h.n6⟩
theorem VOk.add (h : VOk t k V) (p : Pt) (hp : p.needs.length ≤ 6) : VOk t (k + 1) { V with g := V.g.add p } :=
  ⟨h.c, h.p, add_la h.la p, add_n6 h.n6 p hp⟩
theorem VOk.pat (h : VOk t k V) (p : Pt) (hp : p.needs.length ≤ 6) : VOk (t + 3) (k + 1) (V.pat p) := by
  unfold VZ.pat
  split
  · split
    · exact (h.add p hp).mrk _
    · exact h.mono (by omega) (by omega)
  · exact h.mono (by omega) (by omega)
end
theorem rowG : ∃ d, Tryz.prog.underlying 37 = some d ∧ d.isRow = true := ⟨_, Tryz.underlying37, rfl⟩
theorem sizeG : (Tryz.prog.info? 37).map (·.size) = some 3 := by kernel_rfl
theorem srtPl : Srt 204 3 [.int .i64 0, .int .i64 0, .int .i64 0] :=
  ⟨⟨_, Tryz.underlying204, rfl⟩, by kernel_rfl, fun w => (zero_of_info (v := .agg #[.int .i64 0, .int .i64 0, .int .i64 0]) (n := 3) (by kernel_rfl)).1 w, rfl, by intro v hv; simp at hv; subst hv; rfl⟩
theorem PoI.psL {w w' : World} {v : Value} {L : List Pe} {l : List Pt} (h : PoI w w' v L l) (hw : ∀ p ∈ l, p.wfp) : ∃ s : Sv, v = .slice s.a s.n s.c ∧ PsL w' s l ∧ Below w.heap.size w w' := by
  have hf : FwI w w' v L := ⟨h.u, fun t ht => (h.ms t ht).mono (fun x hx => ⟨hx.1.1, hx.1.2, hx.2⟩), fun t ht => hw t.p (by rw [← h.eq]; exact List.mem_map_of_mem ht)⟩
  obtain ⟨s, h1, h2, h3⟩ := hf.psL
  refine ⟨s, h1, ?_, h3⟩
  have : pts L = l := h.eq
  rw [← this]; exact h2
theorem wtP_wfp {Z : GZ} (h : Z.ok 2000) (s : Int) : ∀ p ∈ wtP Z.l s, p.wfp := fun p hp => h.wfp (List.mem_filter.1 hp).1
theorem of_L {w : World} {g : Nat} {Z : GZ} {E F : Nat → Prop} (H : Gh w g Z E F) (s : Int) (hs : wfi s) (hnl : ∀ p ∈ Z.l, p.needs.length ≤ 6) :
    Calls Tryz.prog 101 #[.pointer (some ⟨g, 0, none⟩), .int .i64 s] w fun e w' => ∃ t : Sv, e = .returned (.slice t.a t.n t.c) ∧ PsL w' t (wtP Z.l s) ∧ Below w.heap.size w w' := by
  have hok := H.ok
  obtain ⟨_, _, _, _, H⟩ := H
  refine (of_any H s hs (fun p hp => by have := hnl p hp; omega)).mono ?_
  rintro e w' ⟨v, L, rfl, h⟩
  obtain ⟨t, rfl, h1, h2⟩ := h.psL (wtP_wfp hok s)
  exact ⟨t, rfl, h1, h2⟩
theorem retG1 {fn : Func} {p : Tmp} {tmps : Array Value} {w : World} {g : Nat} {s : Gm} (h : fn.results = #[.cell p 37]) (hp : tmps.getD p undef = .pointer (some ⟨g, 0, none⟩)) (hR : GR w g s) : (results fn tmps).run Tryz.prog w = .ok (gv s) w := by
  have hp' : tmps[p]?.getD undef = .pointer (some ⟨g, 0, none⟩) := by simpa using hp
  simp [results, h, hp', asAddr, loadG hR]
section
variable {u : World} {A : VA} {V : VZ} {U E F T : Nat → Prop} {t k : Nat}
set_option maxRecDepth 100000 in
set_option maxHeartbeats 2000000 in
theorem vgroup_any (H : Vx u A V U E F) (x : Int) :
    Calls Tryz.prog 95 #[.pointer (some ⟨A.v, 0, none⟩), .int .i64 x] u fun e w' => e = .returned (.tuple #[.int .i64 (V.s.pg x), .bool (V.hasG x)]) ∧ Below u.heap.size u w' := by
  have hc := H.c
  have hW := where_any V.s x
  unfold VZ.hasG
  unfold VA.cs at hc
  generalize V.s.pk x = K at *
  generalize V.s.pg x = G at *
  generalize V.s.pi x = I at *
  generalize V.s.werr x = e0 at *
  generalize V.s.g = s1 at *
  generalize V.s.i = s2 at *
  generalize V.s.d = s3 at *
  clear H
  go_enter Tryz.func95, Tryz.ntmps95
  go_wp2_with (first
    | (refine at_getP 37 3 rowG sizeG (by rfl) _ (by rfl) A.v 4 (by rfl) _ hc [.int .i64 s1, .int .i64 s2, .int .i64 s3] (by rfl) rfl ?_)
    | (go_at_call 117; refine (hW _).mono ?_; rintro e w1 ⟨rfl, b1⟩; clear hW)
    | (refine at_newC 204 3 _ srtPl (by rfl) (by rfl) ?_; intro g2 w2 a2 z2 r2 b2)
    | (refine at_putC 204 3 _ srtPl (by rfl) _ _ (by rfl) g2 (by rfl) [.int .i64 K, .int .i64 G, .int .i64 I] (by rfl) rfl (by intro v hv; simp at hv; rcases hv with rfl | rfl | rfl <;> rfl) _ r2 (by rfl) ?_; intro w3 r3 s3))
  have c0 := r3.cell 0 _ rfl
  have c1 := r3.cell 1 _ rfl
  have B : Below u.heap.size u w3 := ((Stp.of_below (bnext b1 b2 (Nat.le_refl _)) (fun x => u.heap.size ≤ x)).next s3 (fun x hx => .inl (by subst hx; have := b1.size; omega))).below (Nat.le_refl _) (fun _ h => h)
  clear b1 b2 s3 r2 r3 hc
  by_cases h0 : e0 = 0
  · subst h0
    by_cases h1 : K = 1
    · subst h1
      go_quiet (fail)
      go_wp2_with fail
      go_returns
      exact ⟨rfl, ((Stp.of_below B (fun _ => False)).drewN _).below (Nat.le_refl _) (fun _ h => h.elim)⟩
    · have hd : decide (K = 1) = false := by simp [h1]
      go_quiet (fail)
      go_wp2_with fail
      go_returns
      exact ⟨by simp [h1], ((Stp.of_below B (fun _ => False)).drewN _).below (Nat.le_refl _) (fun _ h => h.elim)⟩
  · have hd : decide (e0 = 0) = false := by simp [h0]
    go_quiet (fail)
    go_wp2_with fail
    go_returns
    exact ⟨by simp [h0], ((Stp.of_below B (fun _ => False)).drewN _).below (Nat.le_refl _) (fun _ h => h.elim)⟩
set_option maxRecDepth 100000 in
set_option maxHeartbeats 2000000 in
theorem vgeom_any (H : Vx u A V U E F) :
    Calls Tryz.prog 16 #[.pointer (some ⟨A.v, 0, none⟩)] u fun e w' => e = .returned (gv V.s) ∧ Below u.heap.size u w' := by
  have hc := H.c
  unfold VA.cs at hc
  clear H
  go_enter Tryz.func16, Tryz.ntmps16
  go_wp2_with (first
    | (refine at_newG (by rfl) (by rfl) ?_; intro g2 w2 a2 z2 r2 b2)
    | (refine at_getP 37 3 rowG sizeG (by rfl) _ (by rfl) A.v 4 (by rfl) _ (hc.step (Stp.of_below b2 (fun _ => False)) id) [.int .i64 V.s.g, .int .i64 V.s.i, .int .i64 V.s.d] (by rfl) rfl ?_)
    | (refine at_putG (by rfl) _ _ (by rfl) g2 (by rfl) V.s (by rfl) _ r2 ?_; intro w3 r3 s3))
  refine bodyPost_ret (retG1 Tryz.results16 rfl r3) rfl ⟨rfl, ((Stp.of_below b2 (fun _ => False)).next s3 (fun x e => .inr (by omega))).below (Nat.le_refl _) (fun x e => e.elim)⟩
set_option maxRecDepth 100000 in
set_option maxHeartbeats 2000000 in
theorem vnow_any (H : Vx u A V U E F) (ok : VOk t k V) (ht : t ≤ 8990) (i : Int) (hi : wfi i) (hT : ∀ x, T x ↔ Vt A U E F x) :
    Calls Tryz.prog 77 #[.pointer (some ⟨A.v, 0, none⟩), .int .i64 i] u fun e w' => e = .returned (.tuple #[.agg (V.nowB i).cs.toArray, .int .i64 (V.nowE i)]) ∧ VG A (V.look i) T u w' := by
  have hG := fun w' (b : Below u.heap.size u w') => get_ca (H.later b).ca ok.c (by omega) i hi
  have hp := (ok.p.hold i).ex
  have hlt := H.lt
  have n6 := ok.n6
  have t1 : Hid True := trivial
  unfold VZ.nowB VZ.nowE VZ.look
  by_cases he : V.c.holdE i = 0
  · rw [if_pos he, if_pos he]
    rw [he] at hG
    have hgl := (V.c.got i).len
    generalize V.c.got i = B0 at *
    have hR := (nwB B0 (wtP V.g.l i)).len
    have hNow : ∀ w (s : Sv), PsL w s (wtP V.g.l i) → _ := fun w s h => now_L h B0
    generalize nwB B0 (wtP V.g.l i) = R at *
    generalize nwE (wtP V.g.l i) = e1 at *
    go_enter Tryz.func77, Tryz.ntmps77
    go_wp2_with (first
      | (clear t1; refine at_new 95 64 arrB (by rfl) (by rfl) ?_; intro gr w1 a1 z1 r1 b1
         have H1 := H.later b1
         obtain ⟨y0, -, -, -, -, -, -, -⟩ := H1.cells)
      | (go_at_call 99; refine (hG _ b1).mono ?_; rintro e w2 ⟨rfl, k2⟩; clear hG
         obtain ⟨U2, H2, s2, g2⟩ := H1.ofC k2 hp
         have r12 := r1.step s2 (fun hx => by have := H.ca.lt gr hx; omega)
         clear y0 k2 H1)
      | (refine at_new 95 64 arrB (by rfl) (by rfl) ?_; intro gb w3 a3 z3 r3 b3)
      | (refine at_put 95 64 arrB (by rfl) _ _ (by rfl) gb (by rfl) B0.l (by rfl) hgl _ r3 (by simp) ?_; intro W r4 s4))
    have hw1 := b1.size
    have hw2 := s2.size
    have hgb : gb ≠ gr := by omega
    have nU : ¬ Vt A U2 E F gr := fun hx => by
      rcases hx with h | h
      · rcases g2 gr h with e | e
        · have := H.ca.lt gr e; omega
        · omega
      · have := hlt gr (.inr h); omega
    have H3 : Vx W A { V with c := V.c.hold i } U2 E F := (H2.later b3).step s4 (fun x hx e => by subst e; have := H2.lt _ hx; omega)
    have r5 : Row W gr (List.replicate 64 0) := (r12.later b3).step s4 (fun e => by omega)
    have S4 : Stp T u W := (((Stp.of_below b1 T).next s2 (fun x hx => .inl ((hT x).2 (.inl hx)))).trans (Stp.of_below b3 T)).next s4 (fun x hx => .inr (by subst hx; omega))
    have HV : ∀ x, Stp (fun y => y = gr) W x → Vx x A { V with c := V.c.hold i } U2 E F := fun x hx => H3.step hx (fun y hy e => by subst e; exact nU hy)
    have gU : ∀ x, Vt A U2 E F x → T x ∨ u.heap.size ≤ x := Vt.more hT (fun x hx => by rcases g2 x hx with e | e; exact .inl e; exact .inr (by omega)) (fun x hx => .inl hx) (fun x hx => .inl hx)
    have hgr : u.heap.size ≤ gr := a1
    clear r12 r3 s4 b3 r1 H2 s2 g2 b1 hlt nU
    have r5d : Row W.drew gr (List.replicate 64 0) := r5.later (Below.refl _ _).drew
    go_wp2_with fail
    refine wp_region_held_drew (S := fun u => Stp (fun x => x = gr) W u) (by kernel_rfl) (Stp.refl _ _).drew (fun hHeld => ?_)
    refine tm 0 (.agg B0.cs.toArray) rfl
      (yields_row 95 64 arrB (by rfl) (.tmp 6) rfl gb (by rfl) B0.l hgl (fun u hu => r4.step hu hgb)) ?_
    try simp only [z]
    refine tl 1 (.pointer (some ⟨A.v, 0, none⟩)) rfl ?_
    try simp only [z]
    refine tl 2 (.pointer (some ⟨A.v, 0, none⟩)) rfl ?_
    try simp only [z]
    refine tl 3 (.pointer (some ⟨A.v, 1, none⟩)) rfl ?_
    try simp only [z]
    refine tl 4 (.pointer (some ⟨A.v, 1, none⟩)) rfl ?_
    try simp only [z]
    refine tl 5 (.pointer (some ⟨A.g, 0, none⟩)) rfl ?_ (fun u hu => by have x1 := (HV _ hu).cells.2.1; go_simp)
    try simp only [z]
    refine tl 6 (.int .i64 i) rfl ?_
    try simp only [z]
    refine rd 7 rfl (fun K hK => ?_)
    go_simp
    refine (of_L (HV _ hHeld).gh i hi n6).mono ?_
    rintro e v3 ⟨⟨na, nn, nc⟩, rfl, P3, c3⟩
    have yr := r5d.later c3
    try go_wp2_with fail
    refine hK.out _ _ (hHeld.trans (Stp.of_below c3 _)) (fun hHeld => ?_)
    clear hK K
    try simp only [z]
    refine rd 8 rfl (fun K hK => ?_)
    go_simp
    refine (hNow _ _ P3).mono ?_
    rintro e v4 ⟨rfl, c4⟩
    have yr2 := yr.later c4
    try go_wp2_with fail
    refine hK.out _ _ (hHeld.trans (Stp.of_below c4 _)) (fun hHeld => ?_)
    clear hK K
    try simp only [z]
    refine tl 9 (.agg R.cs.toArray) rfl ?_
    try simp only [z]
    refine tl 10 (.int .i64 e1) rfl ?_
    try simp only [z]
    refine rd 11 rfl (fun K hK => ?_)
    refine step_put 95 64 arrB rfl (.tmp 4) (.tmp 33) rfl gr (by rfl) R.l (by rfl) hR _ yr2 (by simp) ?_
    intro v7 y7 s7
    refine hK.out _ _ (hHeld.trans s7) (fun hHeld => ?_)
    clear hK K
    try simp only [Act.put]
    refine tl 12 (.int .i64 e1) rfl ?_
    try simp only [z]
    refine wpAnyH_done (by kernel_rfl) ?_ _
    go_wp2_with fail
    refine bodyPost_ret (retAt arrB Tryz.results77 rfl rfl y7 hR) rfl ⟨rfl, VG.is (HV _ hHeld) (S4.next hHeld (fun x hx => .inr (by subst hx; exact hgr))) gU⟩
  · rw [if_neg he, if_neg he]
    generalize hE0 : V.c.holdE i = e0 at *
    generalize V.c.got i = B0 at *
    have hgl := B0.len
    clear hE0
    go_enter Tryz.func77, Tryz.ntmps77
    go_wp2_with (first
      | (clear t1; refine at_new 95 64 arrB (by rfl) (by rfl) ?_; intro gr w1 a1 z1 r1 b1
         have H1 := H.later b1
         obtain ⟨y0, -, -, -, -, -, -, -⟩ := H1.cells)
      | (go_at_call 99; refine (hG _ b1).mono ?_; rintro e w2 ⟨rfl, k2⟩; clear hG
         obtain ⟨U2, H2, s2, g2⟩ := H1.ofC k2 hp
         have r12 := r1.step s2 (fun hx => by have := H.ca.lt gr hx; omega)
         clear y0 k2 H1)
      | (refine at_new 95 64 arrB (by rfl) (by rfl) ?_; intro gb w3 a3 z3 r3 b3)
      | (refine at_bldB (by rfl) (by rfl) ?_)
      | (refine at_put 95 64 arrB (by rfl) _ _ (by rfl) gb (by rfl) B0.l (by rfl) hgl _ r3 (by simp) ?_; intro W r4 s4
         have r5 : Row W gr (List.replicate 64 0) := (r12.later b3).step s4 (fun e => by have := s2.size; omega))
      | (refine at_put 95 64 arrB (by rfl) _ _ (by rfl) gr (by rfl) Blk.zero.l (by rfl) Blk.zero.len _ r5 (by simp) ?_; intro W6 r6 s6))
    have hw1 := b1.size
    have hw2 := s2.size
    have hw3 := b3.size
    have nU : ¬ Vt A U2 E F gr := fun hx => by
      rcases hx with h | h
      · rcases g2 gr h with e | e
        · have := H.ca.lt gr e; omega
        · omega
      · have := hlt gr (.inr h); omega
    have H3 : Vx W A { V with c := V.c.hold i } U2 E F := (H2.later b3).step s4 (fun x hx e => by subst e; have := H2.lt _ hx; omega)
    have S4 : Stp T u W := (((Stp.of_below b1 T).next s2 (fun x hx => .inl ((hT x).2 (.inl hx)))).trans (Stp.of_below b3 T)).next s4 (fun x hx => .inr (by subst hx; omega))
    have gU : ∀ x, Vt A U2 E F x → T x ∨ u.heap.size ≤ x := Vt.more hT (fun x hx => by rcases g2 x hx with e | e; exact .inl e; exact .inr (by omega)) (fun x hx => .inl hx) (fun x hx => .inl hx)
    have hgr : u.heap.size ≤ gr := a1
    refine bodyPost_ret (retAt arrB Tryz.results77 rfl rfl r6 Blk.zero.len) rfl ⟨rfl, VG.is (H3.step s6 (fun y hy e => by subst e; exact nU hy)) (S4.next s6 (fun x hx => .inr (by subst hx; exact hgr))) gU⟩
end
end Go.Proofs.YtennaimdffohfaaGreatDoor
