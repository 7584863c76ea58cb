/-
  Texts of my own, joined: no statement is proved here.
-/
import Derived.Lib.Walk
import Derived.Deep.RegionLaw
import Derived.Test.YtgdnhkdfcjpdiaaGreatDoorRows
import Derived.OpenShut
import Derived.Shelf.SlIterI.Sorted
import Derived.Shelf.SlIterI.Keys
import Derived.Test.YtgdnhkdfcjpdiaaGreatDoorJas
import Derived.Test.YtgdnhkdfcjpdiaaGreatDoorJau
import Derived.Test.YtgdnhkdfcjpdiaaGreatDoorJbd
import Derived.Test.YtgdnhkdfcjpdiaaGreatDoorJbg
import Derived.Test.YtgdnhkdfcjpdiaaGreatDoorJbj
set_option linter.unusedSimpArgs false
set_option linter.unusedVariables false
namespace Go.Proofs.YtgdnhkdfcjpdiaaGreatDoor
open Go.ChangeShapes Go.WideShapes Go.ChangeAt Go.RowKit
structure Frl where
  a : List Int
  q : List (Int × Int × Int)
structure VZ where
  c : CZ
  w : WS
  g : GZ
  s : Gm
  fr : List Frl
def VZ.p (V : VZ) : PS := V.c.p.getD PS.fresh
def VZ.hasG (V : VZ) (x : Int) : Bool := decide (V.s.werr x = 0) && decide (V.s.pk x ≠ 1)
def VZ.grp (V : VZ) (x : Int) : Nat := (V.s.pg x).toNat
def VZ.mrkE (V : VZ) (n : Nat) : Int := markErr V.w n V.p
def VZ.mrk (V : VZ) (n : Nat) : VZ := { V with w := V.w.mark n V.p, c := { V.c with p := some (markP V.w n V.p) } }
def VZ.patE (V : VZ) (p : Pt) : Int := if V.hasG p.at' then (if V.g.addOk p then V.mrkE (V.grp p.at') else 2) else 2
def VZ.patN (V : VZ) (p : Pt) : Int := if V.patE p = 0 then V.g.last + 1 else 0
def VZ.pat (V : VZ) (p : Pt) : VZ := if V.hasG p.at' then (if V.g.addOk p then { V with g := V.g.add p }.mrk (V.grp p.at') else V) else V
def VZ.nowE (V : VZ) (i : Int) : Int := if V.c.holdE i = 0 then nwE (wtP V.g.l i) else V.c.holdE i
def VZ.nowB (V : VZ) (i : Int) : Blk := if V.c.holdE i = 0 then nwB (V.c.got i) (wtP V.g.l i) else Blk.zero
def VZ.look (V : VZ) (i : Int) : VZ := { V with c := V.c.hold i }
section
variable {u u' : World} {gc g s : Nat} {Z : CZ} {U B : Nat → Prop} {p p' : PS}
theorem Ca.sup (h : Ca u gc g (.pointer (some ⟨s, 0, none⟩)) Z U) (hp : Z.p = some p) : Pw u s p ∧ U s := by
  obtain ⟨mp, ov, f, E, F, G, H, hU⟩ := h
  have hs := H.dd.s
  rw [hp] at hs
  obtain ⟨gp, e, h1, h2⟩ := hs
  injection e with e; injection e with e; injection e with e; subst e
  exact ⟨h1, (hU _).2 (.inr (.inr h2))⟩
theorem Ca.setp (h : Ca u gc g (.pointer (some ⟨s, 0, none⟩)) Z U) (hp : Z.p = some p) (k : Stp B u u') (hB : ∀ x, U x → B x → x = s) (h' : Pw u' s p') : Ca u' gc g (.pointer (some ⟨s, 0, none⟩)) { Z with p := some p' } U := by
  obtain ⟨mp, ov, f, E, F, G, H, hU⟩ := h
  have hs := H.dd.s
  rw [hp] at hs
  obtain ⟨gp, e, h1, h2⟩ := hs
  injection e with e; injection e with e; injection e with e; subst e
  refine ⟨mp, ov, f, E, F, G, ⟨⟨H.dd.d.step k (fun x hx hb => ?_), ⟨s, rfl, h', h2⟩, H.dd.fg, fun x hx => Nat.lt_of_lt_of_le (H.dd.gl x hx) k.size⟩, H.cm.step k (fun x hx hb => ?_), H.ef, H.eg⟩, hU⟩
  · have := hB x ((hU x).2 (.inr (.inl hx))) hb; subst this; exact H.dd.fg x hx h2
  · have := hB x ((hU x).2 (.inl hx)) hb; subst this; exact H.eg x hx h2
end
structure VA where
  v : Nat
  c : Nat
  g : Nat
  d : Nat
  w : Nat
  s : Nat
  z : Option Obj
def VA.cs (A : VA) (s : Gm) : List Value := [.pointer (some ⟨A.c, 0, none⟩), .pointer (some ⟨A.g, 0, none⟩), .pointer (some ⟨A.d, 0, none⟩), .pointer (some ⟨A.w, 0, none⟩), .int .i64 s.g, .int .i64 s.i, .int .i64 s.d, .slice none 0 0]
structure Vx (u : World) (A : VA) (V : VZ) (U E F : Nat → Prop) : Prop where
  c : Cs u A.v (A.cs V.s)
  ca : Ca u A.c A.d (.pointer (some ⟨A.s, 0, none⟩)) V.c U
  ps : ∃ p, V.c.p = some p
  ww : Ww u A.w V.w (some A.s)
  gh : Gh u A.g V.g E F
  tb : Tab u
  z0 : u.heap[1]? = A.z
  so : V.s.ok
  f0 : V.fr = []
  uv : ¬ U A.v ∧ ¬ E A.v ∧ ¬ F A.v ∧ A.v ≠ A.w ∧ A.v ≠ 1
  uw : ¬ U A.w ∧ ¬ E A.w ∧ ¬ F A.w ∧ A.w ≠ 1
  ue : ∀ x, U x → ¬ E x ∧ ¬ F x
  uz : ¬ U 1 ∧ ¬ E 1 ∧ ¬ F 1
def Vt (A : VA) (U E F : Nat → Prop) : Nat → Prop := fun x => U x ∨ E x ∨ F x ∨ x = A.v ∨ x = A.w ∨ x = 1
section
variable {u u' : World} {A : VA} {V : VZ} {U E F B : Nat → Prop}
theorem Ww.stp {g : Nat} {x : WS} {s : Option Nat} (h : Ww u g x s) (k : Stp B u u') (hg : ¬ B g) : Ww u' g x s :=
  ⟨k.cell h.c0 hg, k.cell h.c1 hg, k.cell h.c2 hg, k.cell h.c3 hg, by rw [k.frozen (p := ⟨g, 0, none⟩) h.lt hg]; exact h.f0, by rw [k.frozen (p := ⟨g, 1, none⟩) h.lt hg]; exact h.f1, by rw [k.frozen (p := ⟨g, 2, none⟩) h.lt hg]; exact h.f2, h.l0, h.l1, h.l2⟩
theorem Tab.stp (h : Tab u) (k : Stp B u u') (hB : ¬ B 1) : Tab u' := ⟨k.cell h.c0 hB, k.cell h.c1 hB, k.cell h.c2 hB⟩
theorem Gh.stp {g : Nat} {Z : GZ} (H : Gh u g Z E F) (k : Stp B u u') (hF : ∀ x, F x → ¬ B x) (hE : ∀ x, E x → ¬ B x) : Gh u' g Z E F := by
  obtain ⟨_, _, _, _, H⟩ := H; exact ⟨_, _, _, _, H.step k hF hE⟩
theorem Vx.step (H : Vx u A V U E F) (k : Stp B u u') (hB : ∀ x, Vt A U E F x → ¬ B x) : Vx u' A V U E F :=
  ⟨H.c.step k (hB _ (by unfold Vt; simp)), H.ca.step k (fun x hx => hB x (.inl hx)), H.ps, H.ww.stp k (hB _ (by unfold Vt; simp)), H.gh.stp k (fun x hx => hB x (.inr (.inr (.inl hx)))) (fun x hx => hB x (.inr (.inl hx))), H.tb.stp k (hB _ (by unfold Vt; simp)), by rw [k.block 1 H.tb.lt (hB _ (by unfold Vt; simp))]; exact H.z0, H.so, H.f0, H.uv, H.uw, H.ue, H.uz⟩
theorem Vx.later (H : Vx u A V U E F) (k : Below u.heap.size u u') : Vx u' A V U E F := H.step (Stp.of_below k (fun _ => False)) (fun _ _ => id)
theorem Vx.p (H : Vx u A V U E F) : V.c.p = some V.p ∧ Pw u A.s V.p ∧ U A.s := by
  obtain ⟨p, hp⟩ := H.ps
  have e : V.p = p := by unfold VZ.p; rw [hp]; rfl
  rw [e]
  obtain ⟨h1, h2⟩ := H.ca.sup hp
  exact ⟨hp, h1, h2⟩
theorem Vx.lt (H : Vx u A V U E F) : ∀ x, Vt A U E F x → x < u.heap.size := by
  intro x hx
  rcases hx with h | h | h | h | h | h
  · exact H.ca.lt x h
  · exact H.gh.lt.2.1 x h
  · exact H.gh.lt.1 x h
  · rw [h]; exact H.c.lt
  · rw [h]; exact H.ww.lt
  · rw [h]; exact H.tb.lt
theorem Vx.cells (H : Vx u A V U E F) : u.cell? ⟨A.v, 0, none⟩ = some (.pointer (some ⟨A.c, 0, none⟩)) ∧ u.cell? ⟨A.v, 1, none⟩ = some (.pointer (some ⟨A.g, 0, none⟩)) ∧ u.cell? ⟨A.v, 2, none⟩ = some (.pointer (some ⟨A.d, 0, none⟩)) ∧ u.cell? ⟨A.v, 3, none⟩ = some (.pointer (some ⟨A.w, 0, none⟩)) ∧
    u.cell? ⟨A.v, 4, none⟩ = some (.int .i64 V.s.g) ∧ u.cell? ⟨A.v, 5, none⟩ = some (.int .i64 V.s.i) ∧ u.cell? ⟨A.v, 6, none⟩ = some (.int .i64 V.s.d) ∧ u.cell? ⟨A.v, 7, none⟩ = some (.slice none 0 0) :=
  ⟨H.c.cell 0 _ rfl, H.c.cell 1 _ rfl, H.c.cell 2 _ rfl, H.c.cell 3 _ rfl, H.c.cell 4 _ rfl, H.c.cell 5 _ rfl, H.c.cell 6 _ rfl, H.c.cell 7 _ rfl⟩
end
def Vo (u : World) (A : VA) (V : VZ) (T : Nat → Prop) : Prop := ∃ U E F, Vx u A V U E F ∧ ∀ x, T x ↔ Vt A U E F x
def VG (A : VA) (V' : VZ) (T : Nat → Prop) (w w' : World) : Prop := ∃ T', Vo w' A V' T' ∧ Stp T w w' ∧ Grew T T' w w'
section
variable {u u' u'' : World} {A : VA} {V V' V'' : VZ} {T T' B : Nat → Prop}
theorem Vo.step (h : Vo u A V T) (k : Stp B u u') (hB : ∀ x, T x → ¬ B x) : Vo u' A V T := by
  obtain ⟨U, E, F, H, hT⟩ := h
  exact ⟨U, E, F, H.step k (fun x hx => hB x ((hT x).2 hx)), hT⟩
theorem Vo.later (h : Vo u A V T) (k : Below u.heap.size u u') : Vo u' A V T := h.step (Stp.of_below k (fun _ => False)) (fun _ _ => id)
theorem Vo.lt (h : Vo u A V T) : ∀ x, T x → x < u.heap.size := by
  obtain ⟨U, E, F, H, hT⟩ := h
  exact fun x hx => H.lt x ((hT x).1 hx)
theorem VG.refl (h : Vo u A V T) : VG A V T u u := ⟨T, h, Stp.refl _ _, Grew.refl _ _ _⟩
theorem VG.low (h : Vo u A V T) (k : Below u.heap.size u u') : VG A V T u u' := ⟨T, h.later k, Stp.of_below k T, Grew.refl _ _ _⟩
theorem VG.seq (s : Stp T u u') (g : Grew T T' u u') (k : VG A V'' T' u' u'') : VG A V'' T u u'' := by
  obtain ⟨T'', k1, k2, k3⟩ := k
  refine ⟨T'', k1, s.next k2 (fun x hx => ?_), g.trans k3 s.size k2.size⟩
  rcases g x hx with e | e
  · exact .inl e
  · exact .inr e.1
theorem VG.stp (h : VG A V' T u u') : Stp T u u' := by obtain ⟨_, _, h, _⟩ := h; exact h
theorem VG.from (b : Below u.heap.size u u') (h : VG A V' T u' u'') : VG A V' T u u'' := VG.seq (Stp.of_below b T) (Grew.refl _ _ _) h
theorem Vx.ofC {U E F : Nat → Prop} {C' : CZ} (H : Vx u A V U E F) (h : Goes A.c A.d (.pointer (some ⟨A.s, 0, none⟩)) C' U u u') (hp : ∃ p, C'.p = some p) : ∃ U', Vx u' A { V with c := C' } U' E F ∧ Stp U u u' ∧ Grew U U' u u' := by
  obtain ⟨U', h1, h2, h3⟩ := h
  have far : ∀ x, U' x → U x ∨ u.heap.size ≤ x := fun x hx => by rcases h3 x hx with e | e; exact .inl e; exact .inr e.1
  have nE : ∀ x, E x → ¬ U x := fun x hx hu => (H.ue x hu).1 hx
  have nF : ∀ x, F x → ¬ U x := fun x hx hu => (H.ue x hu).2 hx
  have lt := H.lt
  refine ⟨U', ⟨H.c.step h2 H.uv.1, h1, hp, H.ww.stp h2 H.uw.1, H.gh.stp h2 nF nE, H.tb.stp h2 H.uz.1, by rw [h2.block 1 H.tb.lt H.uz.1]; exact H.z0, H.so, H.f0, ⟨fun hx => ?_, H.uv.2⟩, ⟨fun hx => ?_, H.uw.2⟩, fun x hx => ⟨fun he => ?_, fun hf => ?_⟩, fun hx => ?_, H.uz.2⟩, h2, h3⟩
  · rcases far _ hx with e | e
    · exact H.uv.1 e
    · have := H.c.lt; omega
  · rcases far _ hx with e | e
    · exact H.uw.1 e
    · have := H.ww.lt; omega
  · rcases far x hx with e | e
    · exact (H.ue x e).1 he
    · have := H.gh.lt.2.1 x he; omega
  · rcases far x hx with e | e
    · exact (H.ue x e).2 hf
    · have := H.gh.lt.1 x hf; omega
  · rcases far _ hx with e | e
    · exact H.uz.1 e
    · have := H.tb.lt; omega
theorem Vx.ofG {U E F E' F' : Nat → Prop} {G' : GZ} (H : Vx u A V U E F) (h : Gh u' A.g G' E' F') (k : Stp F u u') (gE : Grew E E' u u') (gF : Grew F F' u u') : Vx u' A { V with g := G' } U E' F' := by
  have fE : ∀ x, E' x → E x ∨ u.heap.size ≤ x := fun x hx => by rcases gE x hx with e | e; exact .inl e; exact .inr e.1
  have fF : ∀ x, F' x → F x ∨ u.heap.size ≤ x := fun x hx => by rcases gF x hx with e | e; exact .inl e; exact .inr e.1
  have l1 := H.c.lt
  have l2 := H.ww.lt
  have l3 := H.tb.lt
  refine ⟨H.c.step k H.uv.2.2.1, H.ca.step k (fun x hx => (H.ue x hx).2), H.ps, H.ww.stp k H.uw.2.2.1, h, H.tb.stp k H.uz.2.2, by rw [k.block 1 H.tb.lt H.uz.2.2]; exact H.z0, H.so, H.f0, ⟨H.uv.1, fun hx => ?_, fun hx => ?_, H.uv.2.2.2⟩, ⟨H.uw.1, fun hx => ?_, fun hx => ?_, H.uw.2.2.2⟩, fun x hx => ⟨fun hy => ?_, fun hy => ?_⟩, H.uz.1, fun hx => ?_, fun hx => ?_⟩
  · rcases fE _ hx with e | e
    · exact H.uv.2.1 e
    · omega
  · rcases fF _ hx with e | e
    · exact H.uv.2.2.1 e
    · omega
  · rcases fE _ hx with e | e
    · exact H.uw.2.1 e
    · omega
  · rcases fF _ hx with e | e
    · exact H.uw.2.2.1 e
    · omega
  · rcases fE x hy with e | e
    · exact (H.ue x hx).1 e
    · have := H.ca.lt x hx; omega
  · rcases fF x hy with e | e
    · exact (H.ue x hx).2 e
    · have := H.ca.lt x hx; omega
  · rcases fE _ hx with e | e
    · exact H.uz.2.1 e
    · omega
  · rcases fF _ hx with e | e
    · exact H.uz.2.2 e
    · omega
theorem Vx.ofW {U E F : Nat → Prop} {x' : WS} {p' : PS} (H : Vx u A V U E F) (k : Step (A.w :: (some A.s).toList) u u') (hw : Ww u' A.w x' (some A.s)) (hp : Sp u' (some A.s) p') : Vx u' A { V with w := x', c := { V.c with p := some p' } } U E F ∧ Stp (fun x => x = A.w ∨ U x) u u' := by
  obtain ⟨e, h1, h2⟩ := H.p
  have k' : Stp (fun x => x = A.w ∨ x = A.s) u u' := Stp.of_step k (fun x hx => by
    rcases List.mem_cons.1 hx with h | h
    · exact .inl (.inl h)
    · have : x ∈ [A.s] := h
      rw [List.mem_singleton] at this; exact .inl (.inr this))
  have ns : ∀ x, x = A.s → U x := fun x hx => by rw [hx]; exact h2
  have n0 : ¬ ((1 : Nat) = A.w ∨ (1 : Nat) = A.s) := fun hb => by
    rcases hb with h | h
    · exact H.uw.2.2.2 h.symm
    · exact H.uz.1 (ns _ h)
  refine ⟨⟨H.c.step k' (fun hx => ?_), H.ca.setp e k' (fun x hx hb => ?_) hp, ⟨p', rfl⟩, hw, H.gh.stp k' (fun x hx hb => ?_) (fun x hx hb => ?_), H.tb.stp k' n0, by rw [k'.block 1 H.tb.lt n0]; exact H.z0, H.so, H.f0, H.uv, H.uw, H.ue, H.uz⟩, k'.mono (fun x hx => by rcases hx with e | e; exact .inl (.inl e); exact .inl (.inr (ns x e)))⟩
  · rcases hx with h | h
    · exact H.uv.2.2.2.1 h
    · exact H.uv.1 (ns _ h)
  · rcases hb with h | h
    · rw [h] at hx; exact absurd hx H.uw.1
    · exact h
  · rcases hb with h | h
    · rw [h] at hx; exact H.uw.2.2.1 hx
    · exact (H.ue x (ns x h)).2 hx
  · rcases hb with h | h
    · rw [h] at hx; exact H.uw.2.1 hx
    · exact (H.ue x (ns x h)).1 hx
theorem VG.is {U E F : Nat → Prop} (H : Vx u' A V' U E F) (s : Stp T u u') (g : ∀ x, Vt A U E F x → T x ∨ u.heap.size ≤ x) : VG A V' T u u' :=
  ⟨Vt A U E F, ⟨U, E, F, H, fun _ => Iff.rfl⟩, s, fun x hx => (g x hx).imp_right fun h => ⟨h, H.lt x hx⟩⟩
theorem Vt.more {U U' E E' F F' : Nat → Prop} {N : Nat} (hT : ∀ x, T x ↔ Vt A U E F x) (h1 : ∀ x, U' x → U x ∨ N ≤ x) (h2 : ∀ x, E' x → E x ∨ N ≤ x) (h3 : ∀ x, F' x → F x ∨ N ≤ x) : ∀ x, Vt A U' E' F' x → T x ∨ N ≤ x := fun x hx => by
  rcases hx with h | h | h | h
  · rcases h1 x h with e | e
    · exact .inl ((hT x).2 (.inl e))
    · exact .inr e
  · rcases h2 x h with e | e
    · exact .inl ((hT x).2 (.inr (.inl e)))
    · exact .inr e
  · rcases h3 x h with e | e
    · exact .inl ((hT x).2 (.inr (.inr (.inl e))))
    · exact .inr e
  · exact .inl ((hT x).2 (.inr (.inr (.inr h))))
end
set_option maxRecDepth 100000
def shwK (S : DS) (k : Nat) : List Blk := (List.range S.n).map fun (i : Nat) => if i < k then S.shown (i : Int) else Blk.zero
def shw (S : DS) : List Blk := (List.range S.n).map fun (i : Nat) => S.shown (i : Int)
theorem shw_len (S : DS) : (shw S).length = S.n := by unfold shw; simp
theorem shwK_zero (S : DS) : shwK S 0 = List.replicate S.n Blk.zero := by
  unfold shwK
  apply List.ext_getElem
  · simp
  · intro i h1 h2; simp
theorem shwK_all (S : DS) : shwK S S.n = shw S := by
  unfold shwK shw
  apply List.map_congr_left
  intro i hi
  rw [if_pos (List.mem_range.1 hi)]
theorem shwK_set (S : DS) {k : Nat} (hk : k < S.n) : (shwK S k).set k (S.shown (k : Int)) = shwK S (k + 1) := by
  unfold shwK
  apply List.ext_getElem
  · simp
  · intro i h1 h2
    rw [List.getElem_set]
    by_cases e : k = i
    · subst e; simp
    · simp only [if_neg e, List.getElem_map, List.getElem_range]
      by_cases h : i < k
      · rw [if_pos h, if_pos (by omega)]
      · rw [if_neg h, if_neg (by omega)]
theorem BlsU.bls {w : World} {a : Option Addr} {n c : Nat} {l : List Blk} (h : BlsU w a n c l) : Bls w a n c l := ⟨h.len, h.le, h.cap, h.cell⟩
set_option maxHeartbeats 4000000 in
theorem vshown_any {u : World} {g : Nat} {sp : Value} {S : DS} {F : Nat → Prop} (h : Disk u g sp S F) (hn : S.n ≤ 2048) :
    Calls Tryz.prog 50 #[.pointer (some ⟨g, 0, none⟩)] u fun e w' => ∃ b, e = .returned (.slice (some ⟨b, 0, none⟩) S.n S.n) ∧ u.heap.size ≤ b ∧ Wd w' b S.n S.n (shw S) ∧ Below u.heap.size u w' := by
  have hL := len_anyD h
  have hR := fun w' (b : Below u.heap.size u w') (i : Nat) (hi : i < S.n) => read_anyD (h.step (Stp.of_below b (fun _ => False)) (fun _ _ => id)) (i : Int) (wfi_of (by omega))
  obtain ⟨n, hn0⟩ : ∃ n, Hid (S.n = n) := ⟨_, rfl⟩
  have hle : n ≤ 2048 := by rw [← hn0.out]; exact hn
  rw [hn0.out] at hL ⊢
  go_enter Tryz.func50, Tryz.ntmps50
  go_wp2_with (first
    | (go_at_call 80; refine hL.mono ?_; rintro e w2 ⟨rfl, rfl⟩; clear hL)
    | (refine at_mkB (by rfl) _ (by rfl) n (by rfl) (by omega) ?_; intro gb w3 a3 r3 b3))
  have start : Wd w3 gb n n (shwK S 0) := by rw [shwK_zero, hn0.out]; exact r3
  clear r3
  go_loopw [10] (fun x wr => ∃ k : Nat, k ≤ n ∧ x = .int .i64 (k : Int) ∧ Wd wr gb n n (shwK S k) ∧ Below u.heap.size u wr) (fun x _ => n - (intOf x).toNat)
  case atStart => exact ⟨0, Nat.zero_le _, rfl, start, b3⟩
  case round =>
    clear start
    obtain ⟨k, hk, rfl, r, b⟩ := hrel
    by_cases hlt : k < n
    · have hlt' : (k : Int) < (n : Int) := by omega
      have e1 : Hid ((shwK S k).set k (S.shown (k : Int)) = shwK S (k + 1)) := shwK_set S (by rw [hn0.out]; exact hlt)
      have hRk := hR _ b k (by rw [hn0.out]; exact hlt)
      generalize S.shown (k : Int) = X at *
      generalize checkErr S (k : Int) = x0 at *
      go_wp2_with (first
        | (go_at_call 81; refine hRk.mono ?_; rintro e w4 ⟨rfl, b4⟩; clear hRk)
        | (refine at_putM (by rfl) _ _ (by rfl) gb k n n _ _ (by rfl) (by omega) X (by rfl) (r.later b4) hlt ?_; intro w5 r5 s5))
      have B5 : Below u.heap.size u w5 := ((Stp.of_below (bnext b b4 (Nat.le_refl _)) (fun _ => False)).next s5 (fun x e => .inr (by omega))).below (Nat.le_refl _) (fun x e => e.elim)
      have J : Wd w5 gb n n (shwK S (k + 1)) := by rw [← e1.out]; exact r5
      go_wp2_with fail
      go_roundw
      case rel => exact ⟨k + 1, by omega, by go_num, J, B5⟩
      case measure => simp [intOf]; omega
    · have hk' : k = n := by omega
      subst hk'
      have hJ : Hid (Wd wr gb k k (shw S)) := by
        show Wd _ _ _ _ _
        rw [← shwK_all, hn0.out]; exact r
      go_wp2_with fail
      go_returns
      exact ⟨_, rfl, a3, hJ.out, b⟩
set_option maxRecDepth 100000
def VZ.new (d : DS) (p : PS) (x : WS) (n : Nat) : VZ := ⟨CZ.new d (some p) n, x, GZ.new, fdG (shw d), []⟩
set_option maxHeartbeats 4000000 in
theorem vnew_good {u : World} {gd gw s : Nat} {d : DS} {p : PS} {x : WS} {F G : Nat → Prop} (hd : DD u gd (.pointer (some ⟨s, 0, none⟩)) d (some p) F G) (hw : Ww u gw x (some s)) (ht : Tab u) (n : Nat) (h1 : 1 ≤ n) (h2 : n ≤ 64) (hf : fdE (shw d) = 0)
    (a1 : ¬ F gw) (a2 : ¬ G gw) (a3 : gw ≠ 1) (a4 : ¬ F 1) (a5 : ¬ G 1) :
    Calls Tryz.prog 28 #[.pointer (some ⟨gd, 0, none⟩), .pointer (some ⟨gw, 0, none⟩), .int .i64 (n : Int)] u fun e w' => ∃ gv' gc gg U E F', e = .returned (.tuple #[.pointer (some ⟨gv', 0, none⟩), .int .i64 0]) ∧ u.heap.size ≤ gv' ∧ Vx w' ⟨gv', gc, gg, gd, gw, s, u.heap[1]?⟩ (VZ.new d p x n) U E F' ∧ Below u.heap.size u w' ∧
      (∀ y, U y → F y ∨ G y ∨ u.heap.size ≤ y) ∧ (∀ y, E y → u.heap.size ≤ y) ∧ (∀ y, F' y → u.heap.size ≤ y) := by
  have hC := cnew_ca hd n h1 h2
  have hok := (fd_ok hf).2.1
  have hn2 := hd.d.ok.n2
  have hS := fun w' (b : Below u.heap.size u w') => vshown_any (hd.d.step (Stp.of_below b (fun _ => False)) (fun _ _ => id)) hn2
  have hFd : ∀ w' b, Wd w' b d.n d.n (shw d) → _ := fun w' b h => sfind_any (some ⟨b, 0, none⟩) d.n d.n (shw d) w' h.bls
  rw [hf] at hFd
  have hl0 := ht.lt
  have hlw := hw.lt
  have hFl := hd.d.lt
  have hGl := hd.gl
  unfold VZ.new
  generalize fdG (shw d) = sg at *
  generalize fdI (shw d) = si at *
  obtain ⟨dn, hdn⟩ : ∃ m, Hid (d.n = m) := ⟨_, rfl⟩
  rw [hdn.out] at hS hFd
  have t1 : Hid True := trivial
  go_enter Tryz.func28, Tryz.ntmps28
  go_wp2_with (first
    | (go_at_call 48; refine hC.mono ?_; rintro e w2 ⟨gc, U, rfl, ca, b2, hU⟩; clear hC)
    | (go_at_call 50; refine (hS _ b2).mono ?_; rintro e w3 ⟨gb, rfl, l3, r3, b3⟩; clear hS)
    | (go_at_call 49; refine (hFd _ _ r3).mono ?_; rintro e w4 ⟨rfl, b4⟩; clear hFd)
    | (refine at_newG (by rfl) (by rfl) ?_; intro g5 w5 a6 z6 r5 b5)
    | (refine at_putG (by rfl) _ _ (by rfl) g5 (by rfl) sg (by rfl) _ r5 ?_; intro W r6 s6))
  have hw2 := b2.size
  have hw3 := b3.size
  have hw4 := b4.size
  have BW : Below u.heap.size u W := ((Stp.of_below (bnext (bnext (bnext b2 b3 (Nat.le_refl _)) b4 (Nat.le_refl _)) b5 (Nat.le_refl _)) (fun _ => False)).next s6 (fun x e => .inr (by omega))).below (Nat.le_refl _) (fun x e => e.elim)
  have hg5 : ¬ U g5 := fun e => by have := ca.lt g5 e; omega
  have caW : Ca W gc gd (.pointer (some ⟨s, 0, none⟩)) (CZ.new d (some p) n) U := (ca.later (bnext (bnext b3 b4 (Nat.le_refl _)) b5 (Nat.le_refl _))).step s6 (fun x hx e => by subst e; exact hg5 hx)
  have wwW := hw.later BW
  have tbW := ht.later BW
  clear ca b3 b4 b5 s6 r5 r3
  refine wp_region_held_drew (S := fun x => Below W.heap.size W x) (by kernel_rfl) (Below.refl _ _).drew (fun hHeld => ?_)
  refine tl 0 (.pointer (some ⟨gc, 0, none⟩)) rfl ?_
  try simp only [z]
  refine tl 3 (.pointer (some ⟨gd, 0, none⟩)) rfl ?_
  try simp only [z]
  refine tl 4 (.pointer (some ⟨gw, 0, none⟩)) rfl ?_
  try simp only [z]
  refine tm 5 (gv sg) rfl
    (yields_G (by rfl) _ (by rfl) g5 (by rfl) sg (fun x hx => r6.later hx)) ?_
  try simp only [z]
  refine rd 1 rfl (fun K hK => ?_)
  go_simp
  refine (new_any _).mono ?_
  rintro e v1 ⟨gg, rfl, E1, F1, q1, q2, q3, c1⟩
  try go_wp2_with fail
  refine hK.out _ _ (bnext hHeld c1 (Nat.le_refl _)) (fun hHeld => ?_)
  clear hK K
  try simp only [z]
  refine tl 2 (.agg #[.pointer (some ⟨gg, 0, none⟩)]) rfl ?_
  try simp only [z]
  refine tl 6 (.agg #[.pointer (some ⟨gc, 0, none⟩), .pointer (some ⟨gg, 0, none⟩), .pointer (some ⟨gd, 0, none⟩), .pointer (some ⟨gw, 0, none⟩), .int .i64 sg.g, .int .i64 sg.i, .int .i64 sg.d, .slice none 0 0]) rfl ?_ (fun u hu => by kernel_rfl)
  try simp only [z]
  refine rd 7 rfl (fun K hK => ?_)
  refine step_boxC 99 rfl (.tmp 39) rfl [.pointer (some ⟨gc, 0, none⟩), .pointer (some ⟨gg, 0, none⟩), .pointer (some ⟨gd, 0, none⟩), .pointer (some ⟨gw, 0, none⟩), .int .i64 sg.g, .int .i64 sg.i, .int .i64 sg.d, .slice none 0 0] (by rfl) (by intro v hv; simp at hv; rcases hv with rfl | rfl | rfl | rfl | rfl | rfl | rfl | rfl <;> rfl) ?_
  intro gV v8 m8 z8 r8 b8
  refine hK.out _ _ (bnext hHeld b8 (Nat.le_refl _)) (fun hHeld => ?_)
  clear hK K
  try simp only [z]
  refine tl 8 (.pointer (some ⟨gV, 0, none⟩)) rfl ?_
  try simp only [z]
  refine tl 9 (.int .i64 0) rfl ?_
  try simp only [z]
  refine wpAnyH_done (by kernel_rfl) ?_ _
  go_wp2_with fail
  go_returns
  have hwW := BW.size
  have H8 : ∀ y, U y → F y ∨ G y ∨ u.heap.size ≤ y := hU
  have b18 : Below W.heap.size W v8 := hHeld
  have hlW : ∀ y, U y → y < W.heap.size := caW.lt
  have cf : (∀ y, F1 y → W.heap.size ≤ y) ∧ (∀ y, E1 y → W.heap.size ≤ y) := ⟨q2, q3⟩
  have hv1 : W.heap.size ≤ v1.heap.size := c1.size
  have hgl := Gh.lt q1
  refine ⟨gV, gc, gg, U, E1, F1, rfl, by omega, ⟨r8, caW.later b18, ⟨p, rfl⟩, wwW.later b18, Gh.later q1 b8, tbW.later b18, (bnext BW b18 (Nat.le_refl _)).block 1 hl0, hok, rfl, ⟨fun e => ?_, fun e => ?_, fun e => ?_, ?_, ?_⟩, ⟨fun e => ?_, fun e => ?_, fun e => ?_, a3⟩, fun y hy => ⟨fun e => ?_, fun e => ?_⟩, fun e => ?_, fun e => ?_, fun e => ?_⟩, bnext BW b18 (Nat.le_refl _), hU, fun y hy => by have := cf.2 y hy; omega, fun y hy => by have := cf.1 y hy; omega⟩
  · have := hlW _ e; simp only at this; omega
  · have := hgl.2.1 _ e; simp only at this; omega
  · have := hgl.1 _ e; simp only at this; omega
  · simp only; omega
  · simp only; omega
  · rcases hU _ e with e | e | e
    · exact a1 e
    · exact a2 e
    · simp only at e; omega
  · have := cf.2 _ e; simp only at this; omega
  · have := cf.1 _ e; simp only at this; omega
  · have := hlW y hy; have := cf.2 y e; omega
  · have := hlW y hy; have := cf.1 y e; omega
  · rcases hU _ e with e | e | e
    · exact a4 e
    · exact a5 e
    · omega
  · have := cf.2 _ e; omega
  · have := cf.1 _ e; omega
def TwoR (e : Int) (pv : Option Addr) (Q : Nat → Prop) : Prop := (e ≠ 0 ∧ pv = none) ∨ (e = 0 ∧ ∃ g, pv = some ⟨g, 0, none⟩ ∧ Q g)
theorem TwoR.yes {e : Int} {pv : Option Addr} {Q : Nat → Prop} (h : TwoR e pv Q) (he : e = 0) : ∃ g, pv = some ⟨g, 0, none⟩ ∧ Q g := (Or.resolve_left h (fun k => k.1 he)).2
theorem TwoR.no {e : Int} {pv : Option Addr} {Q : Nat → Prop} (h : TwoR e pv Q) (he : e ≠ 0) : pv = none := (Or.resolve_right h (fun k => he k.1)).2
def mkE (d : DS) (n : Int) : Int := if n < 1 ∨ 64 < n then 2 else fdE (shw d)
theorem vnew_size {u : World} (dv wv : Value) (n : Int) (h : dv = .pointer none ∨ ((∃ g, dv = .pointer (some ⟨g, 0, none⟩)) ∧ (n < 1 ∨ 64 < n))) :
    Calls Tryz.prog 28 #[dv, wv, .int .i64 n] u fun e w' => e = .returned (.tuple #[.pointer none, .int .i64 2]) ∧ u = w' := by
  have hC := cnew_bad (w := u) dv n h
  clear h
  go_enter Tryz.func28, Tryz.ntmps28
  go_wp2_with (first
    | (go_at_call 48; refine hC.mono ?_; rintro e w2 ⟨rfl, rfl⟩; clear hC))
  go_returns
  exact ⟨rfl, rfl⟩
theorem vnew_nil {u : World} {gd : Nat} {sp : Value} {d : DS} {p : Option PS} {F G : Nat → Prop} (hd : DD u gd sp d p F G) (n : Int) :
    Calls Tryz.prog 28 #[.pointer (some ⟨gd, 0, none⟩), .pointer none, .int .i64 n] u fun e w' => e = .returned (.tuple #[.pointer none, .int .i64 2]) ∧ Below u.heap.size u w' := by
  by_cases hn : n < 1 ∨ 64 < n
  · exact (vnew_size _ _ n (.inr ⟨⟨gd, rfl⟩, hn⟩)).mono fun e w' ⟨h1, h2⟩ => ⟨h1, h2 ▸ Below.refl _ _⟩
  · obtain ⟨m, rfl⟩ : ∃ m : Nat, n = (m : Int) := ⟨n.toNat, by omega⟩
    have hC := cnew_ca hd m (by omega) (by omega)
    clear hn
    go_enter Tryz.func28, Tryz.ntmps28
    go_wp2_with (first
      | (go_at_call 48; refine hC.mono ?_; rintro e w2 ⟨gc, U, rfl, ca, b2, hU⟩; clear hC))
    go_returns
    exact ⟨rfl, b2⟩
set_option maxHeartbeats 4000000 in
theorem vnew_none {u : World} {gd gw : Nat} {sp : Value} {d : DS} {p : Option PS} {F G : Nat → Prop} (hd : DD u gd sp d p F G) (n : Nat) (h1 : 1 ≤ n) (h2 : n ≤ 64) (hf : fdE (shw d) ≠ 0) :
    Calls Tryz.prog 28 #[.pointer (some ⟨gd, 0, none⟩), .pointer (some ⟨gw, 0, none⟩), .int .i64 (n : Int)] u fun e w' => e = .returned (.tuple #[.pointer none, .int .i64 (fdE (shw d))]) ∧ Below u.heap.size u w' := by
  have hC := cnew_ca hd n h1 h2
  have hn2 := hd.d.ok.n2
  have hS := fun w' (b : Below u.heap.size u w') => vshown_any (hd.d.step (Stp.of_below b (fun _ => False)) (fun _ _ => id)) hn2
  have hFd : ∀ w' b, Wd w' b d.n d.n (shw d) → _ := fun w' b h => sfind_any (some ⟨b, 0, none⟩) d.n d.n (shw d) w' h.bls
  generalize fdG (shw d) = sg at *
  generalize fdI (shw d) = si at *
  generalize fdE (shw d) = e0 at *
  obtain ⟨dn, hdn⟩ : ∃ m, Hid (d.n = m) := ⟨_, rfl⟩
  rw [hdn.out] at hS hFd
  have hd0 : ¬ e0 = 0 := hf
  go_enter Tryz.func28, Tryz.ntmps28
  go_wp2_with (first
    | (go_at_call 48; refine hC.mono ?_; rintro e w2 ⟨gc, U, rfl, ca, b2, hU⟩; clear hC)
    | (go_at_call 50; refine (hS _ b2).mono ?_; rintro e w3 ⟨gb, rfl, l3, r3, b3⟩; clear hS)
    | (go_at_call 49; refine (hFd _ _ r3).mono ?_; rintro e w4 ⟨rfl, b4⟩; clear hFd)
    | (refine at_newG (by rfl) (by rfl) ?_; intro g5 w5 a6 z6 r5 b5)
    | (refine at_putG (by rfl) _ _ (by rfl) g5 (by rfl) sg (by rfl) _ r5 ?_; intro W r6 s6))
  go_returns
  have hw2 := b2.size
  have hw3 := b3.size
  have hw4 := b4.size
  exact ⟨rfl, ((Stp.of_below (bnext (bnext (bnext b2 b3 (Nat.le_refl _)) b4 (Nat.le_refl _)) b5 (Nat.le_refl _)) (fun _ => False)).next s6 (fun x e => .inr (by omega))).below (Nat.le_refl _) (fun x e => e.elim)⟩
def NewV (u w' : World) (gd gw s : Nat) (d : DS) (p : PS) (x : WS) (n : Int) (F G : Nat → Prop) (gV : Nat) : Prop := ∃ gc gg U E F', u.heap.size ≤ gV ∧ Vx w' ⟨gV, gc, gg, gd, gw, s, u.heap[1]?⟩ (VZ.new d p x n.toNat) U E F' ∧ (∀ y, U y → F y ∨ G y ∨ u.heap.size ≤ y) ∧ (∀ y, E y → u.heap.size ≤ y) ∧ (∀ y, F' y → u.heap.size ≤ y)
theorem vnew_any {u : World} {gd gw s : Nat} {d : DS} {p : PS} {x : WS} {F G : Nat → Prop} (hd : DD u gd (.pointer (some ⟨s, 0, none⟩)) d (some p) F G) (hw : Ww u gw x (some s)) (ht : Tab u) (n : Int) (a1 : ¬ F gw) (a2 : ¬ G gw) (a3 : gw ≠ 1) (a4 : ¬ F 1) (a5 : ¬ G 1) :
    Calls Tryz.prog 28 #[.pointer (some ⟨gd, 0, none⟩), .pointer (some ⟨gw, 0, none⟩), .int .i64 n] u fun e w' => ∃ pv, e = .returned (.tuple #[.pointer pv, .int .i64 (mkE d n)]) ∧ Below u.heap.size u w' ∧ TwoR (mkE d n) pv (NewV u w' gd gw s d p x n F G) := by
  by_cases hn : n < 1 ∨ 64 < n
  · have e : mkE d n = 2 := by unfold mkE; rw [if_pos hn]
    rw [e]
    exact (vnew_size _ _ n (.inr ⟨⟨gd, rfl⟩, hn⟩)).mono fun e w' ⟨h1, h2⟩ => ⟨none, h1, h2 ▸ Below.refl _ _, .inl ⟨by decide, rfl⟩⟩
  · have e : mkE d n = fdE (shw d) := by unfold mkE; rw [if_neg hn]
    rw [e]
    obtain ⟨m, rfl⟩ : ∃ m : Nat, n = (m : Int) := ⟨n.toNat, by omega⟩
    by_cases hf : fdE (shw d) = 0
    · refine (vnew_good hd hw ht m (by omega) (by omega) hf a1 a2 a3 a4 a5).mono ?_
      rintro e w' ⟨gV, gc, gg, U, E, F', rfl, h1, h2, h3, h4, h5, h6⟩
      exact ⟨_, by rw [hf], h3, .inr ⟨hf, gV, rfl, gc, gg, U, E, F', h1, h2, h4, h5, h6⟩⟩
    · refine (vnew_none hd m (by omega) (by omega) hf).mono ?_
      rintro e w' ⟨rfl, h3⟩
      exact ⟨none, rfl, h3, .inl ⟨hf, rfl⟩⟩
end Go.Proofs.YtgdnhkdfcjpdiaaGreatDoor
