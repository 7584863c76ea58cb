/-
  Texts of my own, joined: no statement is proved here.
-/
import Derived.BigQuiet
import Derived.Test.YtgdnhkdfcjpdiaaGreatDoorJbn
set_option linter.unusedSimpArgs false
set_option linter.unusedVariables false
namespace Go.Proofs.YtgdnhkdfcjpdiaaGreatDoor
open Go.ChangeShapes Go.WideShapes Go.ChangeAt Go.RowKit
set_option maxRecDepth 100000
theorem dnew_L (n s : Nat) (w : World) (h1 : 1 ≤ n) (h2 : n ≤ 2048) :
    Calls Tryz.prog 20 #[.int .i64 (n : Int), .pointer (some ⟨s, 0, none⟩)] w fun e w' => ∃ g F, e = .returned (.tuple #[.pointer (some ⟨g, 0, none⟩), .int .i64 0]) ∧ Disk w' g (.pointer (some ⟨s, 0, none⟩)) (DS.new n) F ∧ (∀ x, F x → w.heap.size ≤ x) ∧ Below w.heap.size w w' :=
  (new_anyD n (some ⟨s, 0, none⟩) w h1 h2).mono fun e w' ⟨a, b, c, d⟩ => ⟨_, _, a, d, fun x hx => hx.1, b⟩
section
variable {ops : Array Oper} {o : Oper} {a : Act} {w : World} {K : Act → World → Prop} {Q : Exit → Act → World → Prop} {R : Prop}
theorem stepg_app {T e : TypeId} {sz n m : Nat} {v : Value} {xs : List Value} (hE : ElT T e sz) (B : Nat) (hw : Region.wanted o (yielded ops a.tmps) = true) (s x : Operand) (ho : o.op = .call { callee := .builtin .append, args := #[s, x], argTypes := #[T, T] }) (hs : a.eval s = v) (h0 : w.ownsRow 0 e sz v n xs) (hN : New B v) (xa : Option Addr) (c : Nat) (news : List Value) (hx : a.eval x = .slice xa m c) (hl : news.length = m * sz) (hnil : xa = none → m = 0 ∧ c = 0) (hnews : ∀ ad, xa = some ad → ∀ j u, news[j]? = some u → w.cell? (ad.add j) = some u) (h1 : ∀ u ∈ news, u.oneCell' = true) (hbig : n + m ≤ 1000000) (hB : B ≤ w.heap.size)
    (h : ∀ v' w', Apd w B e sz v n m (xs ++ news) v' w' → K (a.put o.dst v') w') : if Region.wanted o (yielded ops a.tmps) = true then Oper.wp Tryz.prog o a w K Q else R := by
  rw [if_pos hw]
  obtain ⟨v', w', hr, hA⟩ := apd_run hE o.type h0 hN xa c news hl hnil hnews h1 hbig hB
  unfold Oper.wp execOp
  simp only [ho, resolve, invoke, builtin, Sem.run_bind, Sem.run_pure, Result.andThen_ok, List.map_toArray, List.map_cons, List.map_nil, hs, hx, hr]
  exact h v' w' hA
theorem stepg_bs0 (hw : Region.wanted o (yielded ops a.tmps) = true) (ho : o.op = .buildSlice 40 0 #[])
    (h : ∀ g w', w.heap.size ≤ g → w'.ownsRow 0 88 64 (.slice (some ⟨g, 0, none⟩) 0 0) 0 [] → Below w.heap.size w w' → K (a.put o.dst (.slice (some ⟨g, 0, none⟩) 0 0)) w') : if Region.wanted o (yielded ops a.tmps) = true then Oper.wp Tryz.prog o a w K Q else R := by
  rw [if_pos hw]
  have hb : (Instr.buildSlice 40 0 #[]).run Tryz.prog w = .ok (.slice (some ⟨w.heap.size, 0, none⟩) 0 0) (w.alloc (.cells #[] 88)) := by kernel_rfl
  have hr : (execOp a.eval o).run Tryz.prog w = .ok (.value (.slice (some ⟨w.heap.size, 0, none⟩) 0 0)) (w.alloc (.cells #[] 88)) := by
    simp only [execOp, ho, Sem.run_bind, List.map_toArray, List.map_nil, hb]; rfl
  unfold Oper.wp
  rw [hr]
  exact h w.heap.size _ (Nat.le_refl _) (World.ownsRow_made w #[] 0 (Nat.zero_le _) (Nat.zero_le _) rfl) ((Below.refl _ _).alloc (Nat.le_refl _) _)
end
theorem Wd.news {w : World} {g n c : Nat} {l : List Blk} (h : Wd w g n c l) (j : Nat) (v : Value) (hv : (flatB l)[j]? = some v) : w.cell? ⟨g, j, none⟩ = some v := by
  have hj := (List.getElem?_eq_some_iff.1 hv).1
  rw [flatB_len, h.len] at hj
  have hi : j / 64 < n := Nat.div_lt_of_lt_mul (by omega)
  have hr : j % 64 < 64 := Nat.mod_lt _ (by omega)
  have e : j = j / 64 * 64 + j % 64 := by omega
  rw [e, flatB_get l (j / 64) (j % 64) (by rw [h.len]; exact hi) hr] at hv
  have := h.rng (j / 64) hi (j % 64) v hv
  rw [← e] at this; exact this
theorem newV_at {g n c B : Nat} (h : B ≤ g) : New B (.slice (some ⟨g, 0, none⟩) n c) := fun r e => by
  have : g = r := by simpa [Value.ownBlock] using e
  omega
theorem own_at {g n c r : Nat} (e : (Value.slice (some ⟨g, 0, none⟩) n c).ownBlock = some r) : r = g := by
  have : g = r := by simpa [Value.ownBlock] using e
  exact this.symm
theorem OwBk.at {u wr : World} {v : Value} {l : List Blk} (h : OwBk u wr v l) (hl : l ≠ []) : ∃ g c, v = .slice (some ⟨g, 0, none⟩) l.length c ∧ u.heap.size ≤ g ∧ BlsU wr (some ⟨g, 0, none⟩) l.length c l := by
  rcases h.ow.2 with ⟨e, e2⟩ | ⟨g, cap, cur, e, _⟩
  · exact absurd (List.eq_nil_of_length_eq_zero e2) hl
  · refine ⟨g, cap, e, h.nw g (by rw [e]; rfl), ?_⟩
    have h2 := h.ow
    rw [e] at h2
    exact (Wd.own h2).bls
def wcs (p d x v q e z y : Option Addr) : List Value := [.pointer p, .pointer d, .pointer x, .pointer v, .pointer q, .pointer e, .pointer z, .pointer y]
theorem wcs_one (p d x v q e z y : Option Addr) : ∀ c ∈ wcs p d x v q e z y, c.oneCell' = true := by
  intro c hc
  unfold wcs at hc
  simp only [List.mem_cons, List.not_mem_nil, or_false] at hc
  rcases hc with rfl | rfl | rfl | rfl | rfl | rfl | rfl | rfl <;> rfl
structure Ry (u : World) (gY yc gp gX gE q : Nat) (C : CZ) (x : WS) (s : Gm) (K : Nat → Prop) : Prop where
  c : Cs u gY [.int .i64 s.g, .int .i64 s.i, .int .i64 s.d, .pointer (some ⟨gE, 0, none⟩), .pointer (some ⟨gX, 0, none⟩), .pointer (some ⟨yc, 0, none⟩), .pointer (some ⟨gp, 0, none⟩), .slice none 0 0]
  ra : Ra u yc gE q C K
  rn : Rn u gX x q
  gh : Rh u gp GZ.new (fun _ => False)
  nk : ¬ K gY ∧ ¬ K gX ∧ ¬ K gp
def Yt (gY gX gp : Nat) (K : Nat → Prop) : Nat → Prop := fun x => K x ∨ x = gY ∨ x = gX ∨ x = gp
structure Wz (B : Nat) (u : World) (g6 : Nat) (A : VA) (V : VZ) (U E F : Nat → Prop) (gY yc gp gX gE q : Nat) (K : Nat → Prop) : Prop where
  cs : Cs u g6 (wcs (some ⟨A.s, 0, none⟩) (some ⟨A.d, 0, none⟩) (some ⟨A.w, 0, none⟩) (some ⟨A.v, 0, none⟩) (some ⟨q, 0, none⟩) (some ⟨gE, 0, none⟩) (some ⟨gX, 0, none⟩) (some ⟨gY, 0, none⟩))
  vx : Vx u A V U E F
  ry : Ry u gY yc gp gX gE q V.c V.w V.s K
  ng : ¬ Vt A U E F g6 ∧ ¬ Yt gY gX gp K g6
  ap : ∀ x, Vt A U E F x → ¬ Yt gY gX gp K x
  lo : (∀ x, Vt A U E F x → x = 1 ∨ B ≤ x) ∧ (∀ x, Yt gY gX gp K x → B ≤ x) ∧ B ≤ g6
  g0 : V.g = GZ.new
section
variable {B : Nat} {u u' : World} {g6 : Nat} {A : VA} {V : VZ} {U E F : Nat → Prop} {gY yc gp gX gE q : Nat} {K : Nat → Prop} {C : CZ} {x : WS} {s : Gm} {X : Nat → Prop}
theorem Ry.step (h : Ry u gY yc gp gX gE q C x s K) (k : Stp X u u') (hX : ∀ y, Yt gY gX gp K y → ¬ X y) : Ry u' gY yc gp gX gE q C x s K :=
  ⟨h.c.step k (hX _ (.inr (.inl rfl))), h.ra.step k (fun y hy => hX y (.inl hy)), h.rn.step k (hX _ (.inr (.inr (.inl rfl)))), by obtain ⟨a, c, L, r⟩ := h.gh; exact ⟨a, c, L, r.step k (hX _ (.inr (.inr (.inr rfl)))) (fun _ e => e.elim)⟩, h.nk⟩
theorem Wz.step (h : Wz B u g6 A V U E F gY yc gp gX gE q K) (k : Stp X u u') (h6 : ¬ X g6) (hV : ∀ y, Vt A U E F y → ¬ X y) (hX : ∀ y, Yt gY gX gp K y → ¬ X y) : Wz B u' g6 A V U E F gY yc gp gX gE q K :=
  ⟨h.cs.step k h6, h.vx.step k hV, h.ry.step k hX, h.ng, h.ap, h.lo, h.g0⟩
theorem Wz.later (h : Wz B u g6 A V U E F gY yc gp gX gE q K) (k : Below u.heap.size u u') : Wz B u' g6 A V U E F gY yc gp gX gE q K := h.step (Stp.of_below k (fun _ => False)) id (fun _ _ => id) (fun _ _ => id)
end
def MdR (D : DS) (n : Int) (p1 : PS) (x1 : WS) (u w' : World) (g6 sP gD gW q gE gX : Nat) (pv py : Option Addr) : Prop :=
  (mkE D n ≠ 0 ∧ pv = none ∧ py = none ∧ ∃ F, DD w' gD (.pointer (some ⟨sP, 0, none⟩)) D (some p1) F (fun x => x = sP)) ∨
  (mkE D n = 0 ∧ ∃ (A : VA) (U E F : Nat → Prop) (gY yc gp : Nat) (K : Nat → Prop), pv = some ⟨A.v, 0, none⟩ ∧ py = some ⟨gY, 0, none⟩ ∧ A.d = gD ∧ A.w = gW ∧ A.s = sP ∧ A.z = u.heap[1]? ∧ Wz u.heap.size w' g6 A (VZ.new D p1 x1 n.toNat) U E F gY yc gp gX gE q K)
set_option maxHeartbeats 4000000 in
theorem made_any {u : World} {b0 N c0 : Nat} {l : List Blk} (hl : Wd u b0 N c0 l) (ht : Tab u) (n : Int) (n1 : 1 ≤ N) (n2 : N ≤ 2048) :
    Calls Tryz.prog 8 #[.slice (some ⟨b0, 0, none⟩) N c0, .int .i64 n] u fun e w' => ∃ (g6 sP gD gW q gE gX : Nat) (pv py : Option Addr), e = .returned (.tuple #[.pointer (some ⟨g6, 0, none⟩), .bool true]) ∧
      Cs w' g6 (wcs (some ⟨sP, 0, none⟩) (some ⟨gD, 0, none⟩) (some ⟨gW, 0, none⟩) pv (some ⟨q, 0, none⟩) (some ⟨gE, 0, none⟩) (some ⟨gX, 0, none⟩) py) ∧ Below u.heap.size u w' ∧
      MdR ((DS.new N).load l) n PS.fresh.turn (WS.turn ⟨0, 0, 0⟩ 0 PS.fresh) u w' g6 sP gD gW q gE gX pv py := by
  have hlen := hl.len
  have hN : 1 < u.heap.size := ht.lt
  have hle : loadErr (DS.new N) l = 0 := by unfold loadErr; rw [if_pos (by rw [hlen]; rfl)]
  have hdn : ((DS.new N).load l).n = N := by unfold DS.load; split <;> rfl
  generalize hD0 : (DS.new N).load l = D0 at *
  go_enter Tryz.func8, Tryz.ntmps8
  go_wp2_with (first
    | (go_at_call 18; refine (pnew_L _).mono ?_; rintro e w1 ⟨sP, rfl, l1, m1, hP, b1⟩)
    | (go_at_call 19; refine (rpnew_L _).mono ?_; rintro e w2 ⟨sQ, rfl, l2, m2, hQ, b2⟩)
    | (refine op_val (by rfl) (.agg #[.pointer (some ⟨sP, 0, none⟩), .pointer none, .pointer none, .pointer none, .pointer (some ⟨sQ, 0, none⟩), .pointer none, .pointer none, .pointer none]) _ (by kernel_rfl) ?_)
    | (refine at_boxC 54 (by rfl) _ (by rfl) (wcs (some ⟨sP, 0, none⟩) none none none (some ⟨sQ, 0, none⟩) none none none) (by rfl) (wcs_one _ _ _ _ _ _ _ _) ?_; intro g6 w3 l3 m3 r3 b3
       have c0 := r3.cell 0 _ rfl)
    | (go_at_call 20; refine (dnew_L N sP _ n1 n2).mono ?_; rintro e w4 ⟨gD, FD, rfl, hD, l4, b4⟩; clear c0)
    | (refine at_setPt 46 sz33 (by rfl) _ _ (by rfl) g6 1 (by rfl) (some ⟨gD, 0, none⟩) (by rfl) _ (r3.step (Stp.of_below b4 (fun _ => False)) id) (by show 1 < 8; omega) ?_; intro w5 r5 s5
       have c4 := r5.cell 4 _ rfl)
    | (go_at_call 21; refine (rnew_disk N sQ _ n1 n2).mono ?_; rintro e w6 ⟨gE, RE, rfl, b6, hE, l6⟩; clear c4)
    | (refine at_setPt 50 sz37 (by rfl) _ _ (by rfl) g6 5 (by rfl) (some ⟨gE, 0, none⟩) (by rfl) _ (r5.step (Stp.of_below b6 (fun _ => False)) id) (by show 5 < 8; omega) ?_; intro w7 r7 s7))
  have k1 := b1.size
  have k2 := b2.size
  have k3 := b3.size
  have k4 := b4.size
  have k5 := s5.size
  have k6 := b6.size
  have k7 := s7.size
  have gFD : ¬ FD g6 := fun e => by have := l4 g6 e; omega
  have gRE : ¬ RE g6 := fun e => by have := l6 g6 e; omega
  have hD7 := ((hD.step s5 (fun x hx e => by subst e; exact gFD hx)).step (Stp.of_below b6 (fun _ => False)) (fun _ _ => id)).step s7 (fun x hx e => by subst e; exact gFD hx)
  have hE7 := hE.step s7 (fun x hx e => by subst e; exact gRE hx)
  have B7 : Below u.heap.size u w7 := ((((Stp.of_below (bnext (bnext (bnext b1 b2 (Nat.le_refl _)) b3 (Nat.le_refl _)) b4 (Nat.le_refl _)) (fun x => x = g6)).trans s5).trans (Stp.of_below b6 _)).trans s7).below (Nat.le_refl _) (fun x e => by subst e; omega)
  have hP7 : Pw w7 sP PS.fresh := ((hP.stp (Stp.of_below (bnext (bnext b2 b3 (Nat.le_refl _)) b4 (Nat.le_refl _)) (fun x => x = g6)) (fun e => by omega)).stp s5 (fun e => by omega)).stp (Stp.of_below b6 (fun x => x = g6)) (fun e => by omega) |>.stp s7 (fun e => by omega)
  have hQ7 : Rw w7 sQ (ref PS.fresh) := ((hQ.stp (Stp.of_below (bnext b3 b4 (Nat.le_refl _)) (fun x => x = g6)) (fun e => by omega)).stp s5 (fun e => by omega)).stp (Stp.of_below b6 (fun x => x = g6)) (fun e => by omega) |>.stp s7 (fun e => by omega)
  have hl7 := hl.later B7
  have q7 : Cs w7 g6 (wcs (some ⟨sP, 0, none⟩) (some ⟨gD, 0, none⟩) none none (some ⟨sQ, 0, none⟩) (some ⟨gE, 0, none⟩) none none) := r7
  have hb0 : b0 < u.heap.size := hl.lt
  have fFD : ∀ x, FD x → u.heap.size ≤ x ∧ x < w7.heap.size := fun x hx => ⟨by have := l4 x hx; omega, hD7.lt x hx⟩
  have fRE : ∀ x, RE x → u.heap.size ≤ x ∧ x < w7.heap.size ∧ ¬ FD x := fun x hx => ⟨by have := l6 x hx; omega, hE7.lt x hx, fun e => by have := hD.lt x e; have := l6 x hx; omega⟩
  have pFD : ¬ FD sP ∧ ¬ FD sQ ∧ ¬ RE sQ ∧ ¬ RE sP := ⟨fun e => by have := l4 _ e; omega, fun e => by have := l4 _ e; omega, fun e => by have := l6 _ e; omega, fun e => by have := l6 _ e; omega⟩
  have kg : u.heap.size ≤ g6 ∧ g6 < w7.heap.size ∧ u.heap.size ≤ sP ∧ sP < w7.heap.size ∧ u.heap.size ≤ sQ ∧ sQ < w7.heap.size ∧ sP ≠ g6 ∧ sQ ≠ g6 ∧ sP ≠ sQ := ⟨by omega, by omega, by omega, by omega, by omega, by omega, by omega, by omega, by omega⟩
  clear r3 r5 r7 hD hE s5 s7 b1 b2 b3 b4 b6 hP hQ l1 l2 l3 m1 m2 m3 l4 l6 k1 k2 k3 k4 k5 k6 k7 hl
  refine wp_region_held_drew (S := fun x => Stp FD w7 x) (by kernel_rfl) (Stp.refl _ _).drew (fun hHeld => ?_)
  refine tl 0 (.pointer (some ⟨g6, 0, none⟩)) rfl ?_
  try simp only [z]
  refine tl 1 (.pointer (some ⟨g6, 0, none⟩)) rfl ?_
  try simp only [z]
  refine tl 2 (.pointer (some ⟨g6, 1, none⟩)) rfl ?_
  try simp only [z]
  refine tl 3 (.pointer (some ⟨gD, 0, none⟩)) rfl ?_ (fun u hu => by have x1 := (q7.step hu gFD).cell 1 _ rfl; go_simp)
  try simp only [z]
  refine tl 4 (.bool false) rfl ?_
  try simp only [z]
  refine tl 5 (.bool false) rfl ?_
  try simp only [z]
  refine tl 6 (.pointer (some ⟨g6, 0, none⟩)) rfl ?_
  try simp only [z]
  refine tl 7 (.pointer (some ⟨g6, 0, none⟩)) rfl ?_
  try simp only [z]
  refine tl 8 (.pointer (some ⟨g6, 5, none⟩)) rfl ?_
  try simp only [z]
  refine tl 9 (.pointer (some ⟨gE, 0, none⟩)) rfl ?_ (fun u hu => by have x1 := (q7.step hu gFD).cell 5 _ rfl; go_simp)
  try simp only [z]
  refine tl 10 (.bool false) rfl ?_
  try simp only [z]
  refine tl 11 (.bool false) rfl ?_
  try simp only [z]
  refine tl 12 (.bool false) rfl ?_
  try simp only [z]
  refine tl 13 (.pointer (some ⟨g6, 0, none⟩)) rfl ?_
  try simp only [z]
  refine tl 14 (.pointer (some ⟨g6, 0, none⟩)) rfl ?_
  try simp only [z]
  refine tl 15 (.pointer (some ⟨g6, 1, none⟩)) rfl ?_
  try simp only [z]
  refine tl 16 (.pointer (some ⟨gD, 0, none⟩)) rfl ?_ (fun u hu => by have x1 := (q7.step hu gFD).cell 1 _ rfl; go_simp)
  try simp only [z]
  refine tl 18 (.slice (some ⟨b0, 0, none⟩) N c0) rfl ?_
  try simp only [z]
  refine rd 17 rfl (fun K hK => ?_)
  refine stepg_bs0 (by rfl) rfl ?_
  intro g17 v17 a17 o17 c17
  refine hK.out _ _ (hHeld.trans (Stp.of_below c17 _)) (fun hHeld => ?_)
  clear hK K
  try simp only [z]
  refine rd 19 rfl (fun K hK => ?_)
  refine stepg_app elBk w7.heap.size (by rfl) _ _ (by rfl) (by rfl) o17 (newV_at a17) (some ⟨b0, 0, none⟩) c0 (flatB l) (m := N) (by rfl) (by rw [flatB_len, hlen]) (fun e => by cases e) (fun ad e j v hv => by injection e with e; subst e; rw [Addr.add_mid, Nat.zero_add]; exact ((hl7.later (Below.refl _ _).drew).later c17).news j v hv) (flatB_one l) (by omega) c17.size ?_
  intro v19 w19 hA
  have ob : OwBk w7 w19 v19 l := ⟨by rw [hlen]; have := hA.1; rw [Nat.zero_add, List.nil_append] at this; exact this, hA.2.1, ((Stp.of_below (bnext (Below.refl _ _).drew c17 (Nat.le_refl _)) (fun _ => False)).next hA.2.2.2.1 (fun x e => .inr (by rw [own_at e]; exact a17))).below (Nat.le_refl _) (fun x e => e.elim)⟩
  obtain ⟨a19, c19, e19, nw19, B19⟩ := ob.at (fun e => by rw [e] at hlen; simp at hlen; omega)
  rw [hlen] at e19 B19
  subst e19
  have ob19 := ob.b
  have hD19 := hD7.step (Stp.of_below ob19 (fun _ => False)) (fun _ _ => id)
  refine hK.out _ _ (Stp.of_below ob19 _) (fun hHeld => ?_)
  clear hK K
  try simp only [z]
  refine rd 20 rfl (fun K hK => ?_)
  go_simp
  refine (load_any hD19 B19.bls (fun x hx e hf => by injection e with e; subst e; have := (fFD _ hf).2; simp only at this; omega)).mono ?_
  rintro e v20 ⟨rfl, d20, s20⟩
  rw [hle]
  refine hK.out _ _ (hHeld.trans s20) (fun hHeld => ?_)
  clear hK K
  try simp only [z]
  refine tl 21 (.bool false) rfl ?_
  try simp only [z]
  refine tl 22 (.bool false) rfl ?_
  try simp only [z]
  refine wpAnyH_done (by kernel_rfl) ?_ _
  rw [hD0] at d20
  have b20 : w7.heap.size ≤ v20.heap.size := hHeld.size
  have hQ20 := hQ7.stp hHeld pFD.2.1
  have hP20 := hP7.stp hHeld pFD.1
  have hE20 := hE7.step hHeld (fun x hx e => (fRE x hx).2.2 e)
  have q20 := q7.step hHeld gFD
  have hl20 := hl7.step hHeld (fun e => by have := (fFD _ e).1; omega)
  have S20 : Below u.heap.size u v20 := ((Stp.of_below B7 (fun x => u.heap.size ≤ x)).next hHeld (fun x hx => .inl (fFD x hx).1)).below (Nat.le_refl _) (fun _ h => h)
  have hRl := rload_any hE20 hl20.bls.bls (fun x hx e hf => by injection e with e; subst e; have := (fRE _ hf).1; simp only at this; omega)
  rw [hle, hD0] at hRl
  have c5 := q20.cell 5 _ rfl
  clear hHeld hD19 ob19 B19 hA hD7 hE7 hP7 hQ7 q7 s20 o17 c17 ob
  go_wp2_with (first
    | (go_at_call 23; refine hRl.mono ?_; rintro e w8 ⟨rfl, hE8, s8⟩; clear hRl c5))
  have hQ8 := hQ20.stp s8 pFD.2.2.1
  have hP8 := hP20.stp s8 pFD.2.2.2
  have d8 := d20.step s8 (fun x hx e => (fRE x e).2.2 hx)
  have q8 := q20.step s8 gRE
  have S8 : Below u.heap.size u w8 := ((Stp.of_below S20 (fun x => u.heap.size ≤ x)).next s8 (fun x hx => .inl (fRE x hx).1)).below (Nat.le_refl _) (fun _ h => h)
  have k8 := s8.size
  clear hQ20 hP20 d20 q20 s8 hE20 hl20
  have q8d := q8.step (Stp.of_below (Below.refl _ _).drew (fun _ => False)) id
  refine wp_region_held_drew (S := fun x => x.cell? ⟨g6, 0, none⟩ = some (.pointer (some ⟨sP, 0, none⟩)) ∧ x.cell? ⟨g6, 4, none⟩ = some (.pointer (some ⟨sQ, 0, none⟩))) (by kernel_rfl) ⟨q8d.cell 0 _ rfl, q8d.cell 4 _ rfl⟩ (fun hHeld => ?_)
  refine tl 0 (.pointer (some ⟨g6, 0, none⟩)) rfl ?_
  try simp only [z]
  refine tl 1 (.pointer (some ⟨g6, 0, none⟩)) rfl ?_
  try simp only [z]
  refine tl 2 (.pointer (some ⟨g6, 0, none⟩)) rfl ?_
  try simp only [z]
  refine tl 3 (.pointer (some ⟨g6, 0, none⟩)) rfl ?_
  try simp only [z]
  refine tl 4 (.pointer (some ⟨g6, 0, none⟩)) rfl ?_
  try simp only [z]
  refine tl 5 (.pointer (some ⟨sP, 0, none⟩)) rfl ?_ (fun u hu => by have x1 := hu.1; go_simp)
  try simp only [z]
  refine tl 7 (.pointer (some ⟨g6, 0, none⟩)) rfl ?_
  try simp only [z]
  refine tl 8 (.pointer (some ⟨g6, 0, none⟩)) rfl ?_
  try simp only [z]
  refine tl 9 (.pointer (some ⟨g6, 4, none⟩)) rfl ?_
  try simp only [z]
  refine tl 10 (.pointer (some ⟨sQ, 0, none⟩)) rfl ?_ (fun u hu => by have x1 := hu.2; go_simp)
  try simp only [z]
  refine rd 6 rfl (fun K hK => ?_)
  go_simp
  refine (nnew_L sP _).mono ?_
  rintro e v6 ⟨gW, rfl, lW, mW, hW6, c6⟩
  have q6 := q8d.step (Stp.of_below c6 (fun _ => False)) id
  try go_wp2_with fail
  refine hK.out _ _ (⟨q6.cell 0 _ rfl, q6.cell 4 _ rfl⟩) (fun hHeld => ?_)
  clear hK K
  try simp only [z]
  refine rd 11 rfl (fun K hK => ?_)
  go_simp
  refine (rnnew_any sQ _).mono ?_
  rintro e v11 ⟨gX, rfl, lX, hX11, c11⟩
  have q11 := q6.step (Stp.of_below c11 (fun _ => False)) id
  try go_wp2_with fail
  refine hK.out _ _ (⟨q11.cell 0 _ rfl, q11.cell 4 _ rfl⟩) (fun hHeld => ?_)
  clear hK K
  try simp only [z]
  refine tl 12 (.pointer (some ⟨g6, 0, none⟩)) rfl ?_
  try simp only [z]
  refine tl 13 (.pointer (some ⟨g6, 2, none⟩)) rfl ?_
  try simp only [z]
  refine rd 14 rfl (fun K hK => ?_)
  refine step_setPt 47 sz34 rfl (.tmp 82) (.tmp 75) rfl g6 2 (by rfl) (some ⟨gW, 0, none⟩) (by rfl) _ q11 (by show 2 < 8; omega) ?_
  intro v14 q14 s14
  refine hK.out _ _ (⟨q14.cell 0 _ rfl, q14.cell 4 _ rfl⟩) (fun hHeld => ?_)
  clear hK K
  try simp only [Act.put]
  refine tl 15 (.pointer (some ⟨g6, 0, none⟩)) rfl ?_
  try simp only [z]
  refine tl 16 (.pointer (some ⟨g6, 6, none⟩)) rfl ?_
  try simp only [z]
  refine rd 17 rfl (fun K hK => ?_)
  refine step_setPt 51 sz38 rfl (.tmp 84) (.tmp 80) rfl g6 6 (by rfl) (some ⟨gX, 0, none⟩) (by rfl) _ q14 (by show 6 < 8; omega) ?_
  intro v17 q17 s17
  refine hK.out _ _ (⟨q17.cell 0 _ rfl, q17.cell 4 _ rfl⟩) (fun hHeld => ?_)
  clear hK K
  try simp only [Act.put]
  refine wpAnyH_done (by kernel_rfl) ?_ _
  have kd : w8.drew.heap.size = w8.heap.size := rfl
  have k6 := c6.size
  have k11 := c11.size
  have k14 := s14.size
  have k17 := s17.size
  have nW : gW ≠ g6 ∧ gX ≠ g6 ∧ gW ≠ sP ∧ gX ≠ sQ ∧ gW ≠ sQ ∧ gX ≠ sP ∧ gW ≠ gX ∧ u.heap.size ≤ gW ∧ u.heap.size ≤ gX := ⟨by omega, by omega, by omega, by omega, by omega, by omega, by omega, by omega, by omega⟩
  have S17' : Stp (fun x => x = g6) w8 v17 := ((Stp.of_below (bnext (bnext (Below.refl _ _).drew c6 (Nat.le_refl _)) c11 (Nat.le_refl _)) (fun x => x = g6)).trans s14).trans s17
  have hW17 := ((hW6.later c11).stp s14 nW.1).stp s17 nW.1
  have hX17 := (hX11.step s14 nW.2.1).step s17 nW.2.1
  have hP17 := hP8.stp S17' kg.2.2.2.2.2.2.1
  have hQ17 := hQ8.stp S17' kg.2.2.2.2.2.2.2.1
  have d17 := d8.step S17' (fun x hx e => by subst e; exact gFD hx)
  have hE17 := hE8.step S17' (fun x hx e => by subst e; exact gRE hx)
  have S17 : Below u.heap.size u v17 := ((Stp.of_below S8 (fun x => u.heap.size ≤ x)).next S17' (fun x hx => .inl (by subst hx; exact kg.1))).below (Nat.le_refl _) (fun _ h => h)
  have ht17 := ht.later S17
  have q17' : Cs v17 g6 (wcs (some ⟨sP, 0, none⟩) (some ⟨gD, 0, none⟩) (some ⟨gW, 0, none⟩) none (some ⟨sQ, 0, none⟩) (some ⟨gE, 0, none⟩) (some ⟨gX, 0, none⟩) none) := q17
  have ltFD : ∀ x, FD x → x < gW := fun x hx => by have := (fFD x hx).2; omega
  have ltRE : ∀ x, RE x → x < gW := fun x hx => by have := (fRE x hx).2.1; omega
  have hCl := clear_any gW ⟨0, 0, 0⟩ (some sP) PS.fresh v17 hW17 hP17 ht17 (by unfold PS.okk PS.fresh; simp) (fun e => by injection e with e; exact nW.2.2.1 e.symm) (fun y hy => by
    have : y ∈ [sP] := hy
    rw [List.mem_singleton] at this; subst this; omega)
  have c2 := q17'.cell 2 _ rfl
  clear hHeld q17 q14 q11 q6 q8d q8 hW6 hX11 hP8 hQ8 d8 hE8 s14 s17 c6 c11 S17'
  generalize turnErr PS.fresh = tE at *
  generalize hp1 : PS.fresh.turn = p1 at *
  generalize hx1 : WS.turn ⟨0, 0, 0⟩ 0 PS.fresh = x1 at *
  go_wp2_with (first
    | (go_at_call 26; refine hCl.mono ?_; rintro e w9 ⟨rfl, t9, hW9, hP9⟩; clear hCl c2
       have s9 : Stp (fun x => x = gW ∨ x = sP) v17 w9 := Stp.of_step t9 (fun x hx => by
         rcases List.mem_cons.1 hx with h | h
         · exact .inl (.inl h)
         · have : x ∈ [sP] := h
           rw [List.mem_singleton] at this; exact .inl (.inr this))
       have hX9 := hX17.step s9 (fun e => by rcases e with e | e; exact nW.2.2.2.2.2.2.1 e.symm; exact nW.2.2.2.2.2.1 e)
       have hQ9 := hQ17.stp s9 (fun e => by rcases e with e | e; exact nW.2.2.2.2.1 e.symm; exact kg.2.2.2.2.2.2.2.2 e.symm)
       have d9 := d17.step s9 (fun x hx e => by rcases e with e | e; subst e; have := ltFD _ hx; omega; subst e; exact pFD.1 hx)
       have hE9 := hE17.step s9 (fun x hx e => by rcases e with e | e; subst e; have := ltRE _ hx; omega; subst e; exact pFD.2.2.2 hx)
       have q9 := q17'.step s9 (fun e => by rcases e with e | e; exact nW.1 e.symm; exact kg.2.2.2.2.2.2.1 e.symm)
       have S9 : Below u.heap.size u w9 := ((Stp.of_below S17 (fun x => u.heap.size ≤ x)).next s9 (fun x hx => .inl (by rcases hx with e | e; subst e; exact nW.2.2.2.2.2.2.2.1; subst e; exact kg.2.2.1))).below (Nat.le_refl _) (fun _ h => h)
       have k9 := s9.size
       have hCl2 := rnclear_any hX9 hQ9 fresh_ok (by omega) nW.2.2.2.1
       have c6 := q9.cell 6 _ rfl
       clear hX17 hQ17 d17 hE17 q17' S17 t9 hW17 hP17 ht17)
    | (go_at_call 27; refine hCl2.mono ?_; rintro e w10 ⟨rfl, hX10, hQ10, s10⟩; clear hCl2 c6))
  have hW10 := hW9.stp s10 (fun e => by rcases e with e | e; exact nW.2.2.2.2.2.2.1 e; exact nW.2.2.2.2.1 e)
  have hP10 : Pw w10 sP p1 := Pw.stp hP9 s10 (fun e => by rcases e with e | e; exact nW.2.2.2.2.2.1 e.symm; exact kg.2.2.2.2.2.2.2.2 e)
  have d10 := d9.step s10 (fun x hx e => by rcases e with e | e; subst e; have := ltFD _ hx; omega; subst e; exact pFD.2.1 hx)
  have hE10 := hE9.step s10 (fun x hx e => by rcases e with e | e; subst e; have := ltRE _ hx; omega; subst e; exact pFD.2.2.1 hx)
  have q10 := q9.step s10 (fun e => by rcases e with e | e; exact nW.2.1 e.symm; exact kg.2.2.2.2.2.2.2.1 e.symm)
  have S10 : Below u.heap.size u w10 := ((Stp.of_below S9 (fun x => u.heap.size ≤ x)).next s10 (fun x hx => .inl (by rcases hx with e | e; subst e; exact nW.2.2.2.2.2.2.2.2; subst e; exact kg.2.2.2.2.1))).below (Nat.le_refl _) (fun _ h => h)
  have k10 := s10.size
  have hdd : DD w10 gD (.pointer (some ⟨sP, 0, none⟩)) D0 (some p1) FD (fun x => x = sP) := ⟨d10, ⟨sP, rfl, hP10, rfl⟩, fun x hx e => by subst e; exact pFD.1 hx, fun x hx => by subst hx; have := hP10.lt; omega⟩
  have dd : Below w10.heap.size w10 w10.drew := (Below.refl _ _).drew
  have hddD := hdd.step (Stp.of_below dd (fun _ => False)) (fun _ _ => id) (fun _ _ => id)
  obtain ⟨e0, he0⟩ : ∃ e, Hid (mkE D0 n = e) := ⟨_, rfl⟩
  have hVN := vnew_any hddD (hW10.later dd) (ht.later (bnext S10 dd (Nat.le_refl _))) n (fun e => by have := ltFD _ e; omega) nW.2.2.1 (by omega) (fun e => by have := (fFD _ e).1; omega) (fun e => by have := kg.2.2.1; omega)
  rw [he0.out] at hVN
  have q10d := q10.step (Stp.of_below dd (fun _ => False)) id
  have lg6 : g6 < w10.heap.size := q10.lt
  have kd10 : w10.drew.heap.size = w10.heap.size := rfl
  refine wp_region_held_drew (S := fun x => x.cell? ⟨g6, 1, none⟩ = some (.pointer (some ⟨gD, 0, none⟩)) ∧ x.cell? ⟨g6, 2, none⟩ = some (.pointer (some ⟨gW, 0, none⟩))) (by kernel_rfl) ⟨q10d.cell 1 _ rfl, q10d.cell 2 _ rfl⟩ (fun hHeld => ?_)
  refine tl 0 (.pointer (some ⟨g6, 0, none⟩)) rfl ?_
  try simp only [z]
  refine tl 1 (.pointer (some ⟨g6, 0, none⟩)) rfl ?_
  try simp only [z]
  refine tl 2 (.pointer (some ⟨g6, 0, none⟩)) rfl ?_
  try simp only [z]
  refine tl 3 (.pointer (some ⟨g6, 1, none⟩)) rfl ?_
  try simp only [z]
  refine tl 4 (.pointer (some ⟨gD, 0, none⟩)) rfl ?_ (fun u hu => by have x1 := hu.1; go_simp)
  try simp only [z]
  refine tl 5 (.pointer (some ⟨g6, 0, none⟩)) rfl ?_
  try simp only [z]
  refine tl 6 (.pointer (some ⟨g6, 0, none⟩)) rfl ?_
  try simp only [z]
  refine tl 7 (.pointer (some ⟨g6, 2, none⟩)) rfl ?_
  try simp only [z]
  refine tl 8 (.pointer (some ⟨gW, 0, none⟩)) rfl ?_ (fun u hu => by have x1 := hu.2; go_simp)
  try simp only [z]
  refine tl 9 (.int .i64 n) rfl ?_
  try simp only [z]
  refine rd 10 rfl (fun K hK => ?_)
  go_simp
  refine hVN.mono ?_
  rintro e v10 ⟨pv, rfl, cV, HV⟩
  have qV := q10d.step (Stp.of_below cV (fun _ => False)) id
  try go_wp2_with fail
  refine hK.out _ _ (⟨qV.cell 1 _ rfl, qV.cell 2 _ rfl⟩) (fun hHeld => ?_)
  clear hK K
  try simp only [z]
  refine tl 11 (.tuple #[.pointer pv, .int .i64 e0]) rfl ?_
  try simp only [z]
  refine tl 12 (.pointer pv) rfl ?_
  try simp only [z]
  refine tl 13 (.int .i64 e0) rfl ?_
  try simp only [z]
  refine tl 14 (.pointer (some ⟨g6, 0, none⟩)) rfl ?_
  try simp only [z]
  refine tl 15 (.pointer (some ⟨g6, 3, none⟩)) rfl ?_
  try simp only [z]
  refine rd 16 rfl (fun K hK => ?_)
  refine step_setPt 48 sz35 rfl (.tmp 110) (.tmp 107) rfl g6 3 (by rfl) pv (by rfl) _ qV (by show 3 < 8; omega) ?_
  intro v16 q16 s16
  refine hK.out _ _ (⟨q16.cell 1 _ rfl, q16.cell 2 _ rfl⟩) (fun hHeld => ?_)
  clear hK K
  try simp only [Act.put]
  refine tl 17 (.int .i64 e0) rfl ?_
  try simp only [z]
  refine wpAnyH_done (by kernel_rfl) ?_ _
  have s11 : Stp (fun x => x = g6) w10 v16 := (Stp.of_below (bnext dd cV (Nat.le_refl _)) _).trans s16
  have k16 := s11.size
  have k10v := cV.size
  have hE16 := hE10.step s11 (fun x hx e => by subst e; exact gRE hx)
  have hQ16 := hQ10.stp s11 kg.2.2.2.2.2.2.2.1
  have S16 : Below u.heap.size u v16 := ((Stp.of_below S10 (fun x => u.heap.size ≤ x)).next s11 (fun x hx => .inl (by subst hx; exact kg.1))).below (Nat.le_refl _) (fun _ h => h)
  have d16 : Below v16.heap.size v16 v16.drew := (Below.refl _ _).drew
  have hRN := rvnew_any (x := gX) (hE16.step (Stp.of_below d16 (fun _ => False)) (fun _ _ => id)) (hQ16.stp (Stp.of_below d16 (fun _ => False)) id) pFD.2.2.1 (by have := kg.2.2.2.2.2.1; have : v16.drew.heap.size = v16.heap.size := rfl; omega) n (by rw [hdn]; exact n2)
  rw [he0.out] at hRN
  have q16d := q16.step (Stp.of_below d16 (fun _ => False)) id
  have kd16 : v16.drew.heap.size = v16.heap.size := rfl
  clear hVN hHeld
  go_wp2_with fail
  refine wp_region_held_drew (S := fun x => x.cell? ⟨g6, 5, none⟩ = some (.pointer (some ⟨gE, 0, none⟩)) ∧ x.cell? ⟨g6, 6, none⟩ = some (.pointer (some ⟨gX, 0, none⟩))) (by kernel_rfl) ⟨q16d.cell 5 _ rfl, q16d.cell 6 _ rfl⟩ (fun hHeld => ?_)
  refine tl 0 (.pointer (some ⟨g6, 0, none⟩)) rfl ?_
  try simp only [z]
  refine tl 1 (.pointer (some ⟨g6, 0, none⟩)) rfl ?_
  try simp only [z]
  refine tl 2 (.pointer (some ⟨g6, 0, none⟩)) rfl ?_
  try simp only [z]
  refine tl 3 (.pointer (some ⟨g6, 5, none⟩)) rfl ?_
  try simp only [z]
  refine tl 4 (.pointer (some ⟨gE, 0, none⟩)) rfl ?_ (fun u hu => by have x1 := hu.1; go_simp)
  try simp only [z]
  refine tl 5 (.pointer (some ⟨g6, 0, none⟩)) rfl ?_
  try simp only [z]
  refine tl 6 (.pointer (some ⟨g6, 0, none⟩)) rfl ?_
  try simp only [z]
  refine tl 7 (.pointer (some ⟨g6, 6, none⟩)) rfl ?_
  try simp only [z]
  refine tl 8 (.pointer (some ⟨gX, 0, none⟩)) rfl ?_ (fun u hu => by have x1 := hu.2; go_simp)
  try simp only [z]
  refine tl 9 (.int .i64 n) rfl ?_
  try simp only [z]
  refine rd 10 rfl (fun K hK => ?_)
  go_simp
  refine hRN.mono ?_
  rintro e v20 ⟨py, rfl, cY, HY⟩
  have qY := q16d.step (Stp.of_below cY (fun _ => False)) id
  try go_wp2_with fail
  refine hK.out _ _ (⟨qY.cell 5 _ rfl, qY.cell 6 _ rfl⟩) (fun hHeld => ?_)
  clear hK K
  try simp only [z]
  refine tl 11 (.tuple #[.pointer py, .int .i64 e0]) rfl ?_
  try simp only [z]
  refine tl 12 (.pointer py) rfl ?_
  try simp only [z]
  refine tl 13 (.int .i64 e0) rfl ?_
  try simp only [z]
  refine tl 14 (.pointer (some ⟨g6, 0, none⟩)) rfl ?_
  try simp only [z]
  refine tl 15 (.pointer (some ⟨g6, 7, none⟩)) rfl ?_
  try simp only [z]
  refine rd 16 rfl (fun K hK => ?_)
  refine step_setPt 52 sz39 rfl (.tmp 126) (.tmp 123) rfl g6 7 (by rfl) py (by rfl) _ qY (by show 7 < 8; omega) ?_
  intro v21 q21 s21
  refine hK.out _ _ (⟨q21.cell 5 _ rfl, q21.cell 6 _ rfl⟩) (fun hHeld => ?_)
  clear hK K
  try simp only [Act.put]
  refine tl 17 (.int .i64 e0) rfl ?_
  try simp only [z]
  refine wpAnyH_done (by kernel_rfl) ?_ _
  have s22 : Stp (fun x => x = g6) v16 v21 := (Stp.of_below (bnext d16 cY (Nat.le_refl _)) _).trans s21
  have k20 := cY.size
  have S22 : Below u.heap.size u v21 := ((Stp.of_below S16 (fun x => u.heap.size ≤ x)).next s22 (fun x hx => .inl (by subst hx; exact kg.1))).below (Nat.le_refl _) (fun _ h => h)
  have q22 : Cs v21 g6 (wcs (some ⟨sP, 0, none⟩) (some ⟨gD, 0, none⟩) (some ⟨gW, 0, none⟩) pv (some ⟨sQ, 0, none⟩) (some ⟨gE, 0, none⟩) (some ⟨gX, 0, none⟩) py) := q21
  have hsu : Stp (fun x => x = g6) w10 v21 := s11.trans s22
  have hX22 := hX10.step hsu nW.2.1
  have c3 := q22.cell 3 _ rfl
  have c7 := q22.cell 7 _ rfl
  clear hHeld hRN qY q21
  by_cases hz : e0 = 0
  · obtain ⟨gV, rfl, gc, gg, U, E, F', lV, HV', hU, hE', hF'⟩ := HV.yes hz
    obtain ⟨gY, rfl, yc, gp, ⟨y1, y2, y3, y4, y5, y6⟩, rc, rx, rg⟩ := HY.yes hz
    have fU : ∀ x, Vt ⟨gV, gc, gg, gD, gW, sP, w10.drew.heap[1]?⟩ U E F' x → x ≠ g6 ∧ (x = 1 ∨ u.heap.size ≤ x) ∧ x < v16.drew.heap.size ∧ (FD x ∨ x = sP ∨ w10.heap.size ≤ x ∨ x = gW ∨ x = 1) := fun x hx => by
      have hlx := HV'.lt x hx
      have k16' : v10.heap.size ≤ v16.heap.size := s16.size
      rcases hx with h | h | h | h | h | h
      · rcases hU x h with h | h | h
        · exact ⟨fun e => gFD (e ▸ h), .inr (fFD x h).1, by omega, .inl h⟩
        · subst h; exact ⟨kg.2.2.2.2.2.2.1, .inr kg.2.2.1, by omega, .inr (.inl rfl)⟩
        · exact ⟨by omega, .inr (by omega), by omega, .inr (.inr (.inl (by omega)))⟩
      · have := hE' x h; exact ⟨by omega, .inr (by omega), by omega, .inr (.inr (.inl (by omega)))⟩
      · have := hF' x h; exact ⟨by omega, .inr (by omega), by omega, .inr (.inr (.inl (by omega)))⟩
      · simp only at h; exact ⟨by omega, .inr (by omega), by omega, .inr (.inr (.inl (by omega)))⟩
      · simp only at h; exact ⟨by rw [h]; exact nW.1, .inr (by rw [h]; exact nW.2.2.2.2.2.2.2.1), by omega, .inr (.inr (.inr (.inl h)))⟩
      · exact ⟨by omega, .inl h, by omega, .inr (.inr (.inr (.inr h)))⟩
    have H16 := HV'.step s16 (fun x hx e => (fU x hx).1 e)
    have H22 := H16.step s22 (fun x hx e => (fU x hx).1 e)
    have gX10 : gX < w10.heap.size := hX10.c.lt
    have nY : gY ≠ g6 ∧ yc ≠ g6 ∧ gp ≠ g6 := ⟨by omega, by omega, by omega⟩
    have rc' := rc.step s21 nY.1
    have rx' := rx.step s21 (fun x hx e => by have hx : x = yc := hx; omega) (fun x hx e => by subst e; exact gRE hx) kg.2.2.2.2.2.2.2.1
    rw [hp1] at rx'
    rw [hx1] at hX22
    have rg' : Rh v21 gp GZ.new (fun _ => False) := by obtain ⟨a, c, L, h⟩ := rg; exact ⟨a, c, L, h.step s21 nY.2.2 (fun x hx => hx.elim)⟩
    have W22 : Wz u.heap.size v21 g6 ⟨gV, gc, gg, gD, gW, sP, w10.drew.heap[1]?⟩ (VZ.new D0 p1 x1 n.toNat) U E F' gY yc gp gX gE sQ (Rl sQ (fun z => z = yc) RE) := by
      refine ⟨q22, H22, ⟨rc', ⟨_, _, _, _, rx', fun _ => Iff.rfl⟩, hX22, rg', fun e => ?_, fun e => ?_, fun e => ?_⟩, ⟨fun e => (fU _ e).1 rfl, fun e => ?_⟩, fun x hx e => ?_, ⟨fun x hx => (fU x hx).2.1, fun x hx => ?_, kg.1⟩, rfl⟩
      · rcases e with e | e | e
        · exact y5 e
        · have := (fRE _ e).2.1; omega
        · have := kg.2.2.2.2.2.1; omega
      · rcases e with e | e | e
        · have e : gX = yc := e
          omega
        · have := ltRE _ e; have := (fRE _ e).2.1; omega
        · exact nW.2.2.2.1 e
      · rcases e with e | e | e
        · exact y4 e.symm
        · have := (fRE _ e).2.1; omega
        · have := kg.2.2.2.2.2.1; omega
      · rcases e with (e | e | e) | e | e | e
        · exact nY.2.1 e.symm
        · exact gRE e
        · exact kg.2.2.2.2.2.2.2.1 e.symm
        · exact nY.1 e.symm
        · exact nW.2.1 e.symm
        · exact nY.2.2 e.symm
      · obtain ⟨-, -, f1, f2⟩ := fU x hx
        rcases e with (e | e | e) | e | e | e
        · have e : x = yc := e
          omega
        · have g1 := fRE x e
          have g2 := ltRE x e
          rcases f2 with h | h | h | h | h
          · exact g1.2.2 h
          · subst h; exact pFD.2.2.2 e
          · omega
          · omega
          · omega
        · rcases f2 with h | h | h | h | h
          · subst e; exact pFD.2.1 h
          · exact kg.2.2.2.2.2.2.2.2 (h.symm.trans e)
          · have := kg.2.2.2.2.2.1; omega
          · exact nW.2.2.2.2.1 (h.symm.trans e)
          · have := kg.2.2.2.2.1; omega
        · omega
        · rcases f2 with h | h | h | h | h
          · have := ltFD x h; omega
          · exact nW.2.2.2.2.2.1 (e.symm.trans h)
          · omega
          · exact nW.2.2.2.2.2.2.1 (h.symm.trans e)
          · omega
        · omega
      · rcases hx with (e | e | e) | e | e | e
        · have e : x = yc := e
          omega
        · exact (fRE x e).1
        · rw [e]; exact kg.2.2.2.2.1
        · omega
        · rw [e]; exact nW.2.2.2.2.2.2.2.2
        · omega
    clear HV HY HV' H16 H22 rc rx rg rc' rx' rg'
    go_wp2_with fail
    go_quiet (fail)
    go_wp2_with fail
    go_returns
    have b22 : Below v21.heap.size v21 _ := ((Stp.of_below (Below.refl _ v21) (fun _ => False)).drewN nq).below (Nat.le_refl _) (fun _ h => h.elim)
    exact ⟨g6, sP, gD, gW, sQ, gE, gX, _, _, rfl, q22.step (Stp.of_below b22 (fun _ => False)) id, bnext S22 b22 (Nat.le_refl _), .inr ⟨he0.out.trans hz, ⟨gV, gc, gg, gD, gW, sP, w10.drew.heap[1]?⟩, U, E, F', gY, yc, gp, _, rfl, rfl, rfl, rfl, rfl, (bnext S10 dd (Nat.le_refl _)).block 1 hN, by rw [hp1, hx1]; exact W22.later b22⟩⟩
  · obtain rfl := HV.no hz
    obtain rfl := HY.no hz
    have hdd22 := hdd.step hsu (fun x hx e => by subst e; exact gFD hx) (fun x hx e => kg.2.2.2.2.2.2.1 (hx.symm.trans e))
    clear HV HY
    go_wp2_with fail
    go_quiet (fail)
    go_wp2_with fail
    go_returns
    have b22 : Below v21.heap.size v21 _ := ((Stp.of_below (Below.refl _ v21) (fun _ => False)).drewN nq).below (Nat.le_refl _) (fun _ h => h.elim)
    exact ⟨g6, sP, gD, gW, sQ, gE, gX, _, _, rfl, q22.step (Stp.of_below b22 (fun _ => False)) id, bnext S22 b22 (Nat.le_refl _), .inl ⟨fun e => hz (he0.out.symm.trans e), rfl, rfl, FD, by rw [hp1]; exact hdd22.step (Stp.of_below b22 (fun _ => False)) (fun _ _ => id) (fun _ _ => id)⟩⟩
end Go.Proofs.YtgdnhkdfcjpdiaaGreatDoor
