/-
  What the statement's do returns, of two numbers that are written, and of any act: no statement is proved here.
-/
import Derived.Test.YtigchhogclofiaaGreatGpC
import Derived.Test.YtigchhogclofiaaGreatGsD
import Derived.Test.YtigchhogclofiaaGreatGrW
namespace Go.Proofs.YtigchhogclofiaaGreat
open Go.ChangeShapes Go.WideShapes Go.ChangeAt Go.RowKit
set_option linter.unusedVariables false
set_option linter.unusedSimpArgs false

theorem Rh.step {w w' : World} {h : Nat} {Z : GZ} {R F : Nat → Prop} (H : Rh w h Z R) (k : Stp F w w') (hg : ¬ F h) (hR : ∀ x, R x → ¬ F x) : Rh w' h Z R := by
  obtain ⟨a, c, L, H⟩ := H
  exact ⟨a, c, L, H.step k hg hR⟩
theorem Rh.later {w w' : World} {h : Nat} {Z : GZ} {R : Nat → Prop} (H : Rh w h Z R) (k : Below w.heap.size w w') : Rh w' h Z R := H.step (Stp.of_below k (fun _ => False)) id (fun _ _ => id)
theorem Rh.lt {w : World} {h : Nat} {Z : GZ} {R : Nat → Prop} (H : Rh w h Z R) : h < w.heap.size ∧ ∀ x, R x → x < w.heap.size := by
  obtain ⟨a, c, L, H⟩ := H
  exact ⟨H.cc.lt, H.lt⟩
theorem Rh.last {w : World} {h : Nat} {Z : GZ} {R : Nat → Prop} (H : Rh w h Z R) : w.cell? ⟨h, 0, none⟩ = some (.int .i64 Z.last) := by
  obtain ⟨a, c, L, H⟩ := H
  exact H.cells.1
theorem Gh.ok {w : World} {g : Nat} {Z : GZ} {E F : Nat → Prop} (H : Gh w g Z E F) : Z.ok 2000 := by obtain ⟨_, _, _, _, H⟩ := H; exact H.ok
theorem Gh.lt {w : World} {g : Nat} {Z : GZ} {E F : Nat → Prop} (H : Gh w g Z E F) : (∀ x, F x → x < w.heap.size) ∧ (∀ x, E x → x < w.heap.size) ∧ ∀ x, E x → ¬ F x := by obtain ⟨_, _, _, _, H⟩ := H; exact ⟨H.lt, H.el, H.ef⟩
/-- Both graphs, with the same patches, apart, and behind N. -/
structure Bx (N : Nat) (w : World) (g h : Nat) (Z : GZ) (k : Nat) (E F R : Nat → Prop) : Prop where
  gh : Gh w g Z E F
  rh : Rh w h Z R
  hF : ∀ x, F x → N ≤ x ∧ x ≠ h ∧ ¬ R x
  hE : ∀ x, E x → N ≤ x ∧ x ≠ h
  hR : ∀ x, R x → N ≤ x
  hN : N ≤ h
  n6 : ∀ p ∈ Z.l, p.needs.length ≤ 6
  la : Z.last ≤ (k : Int)
section
variable {N g h k k' : Nat} {w w1 w2 w3 : World} {Z Z' : GZ} {E F R E' F' R3 : Nat → Prop}
theorem Bx.later (B : Bx N w g h Z k E F R) (b : Below w.heap.size w w1) : Bx N w1 g h Z k E F R := ⟨B.gh.later b, B.rh.later b, B.hF, B.hE, B.hR, B.hN, B.n6, B.la⟩
theorem Bx.few (B : Bx N w g h Z k E F R) : (Z.l.length : Int) ≤ k := by
  have ok := B.gh.ok
  have := rising_len Z.l 0 Z.last ok.srt (fun p hp => by have := ok.rng p hp; omega) ok.l0
  have := B.la
  omega
theorem Bx.nl (B : Bx N w g h Z k E F R) : ∀ p ∈ Z.l, p.needs.length ≤ 100000 := fun p hp => by have := B.n6 p hp; omega
theorem Bx.size (B : Bx N w g h Z k E F R) : N ≤ w.heap.size := by have := B.hN; have := B.rh.lt.1; omega
/-- The code's graph goes on, then the document's. -/
theorem Bx.pair (B : Bx N w g h Z k E F R) (gh : Gh w1 g Z' E' F') (s1 : Stp F w w1) (gF : Grew F F' w w1) (gE : Grew E E' w w1) (b12 : Below w1.heap.size w1 w2) (rh : Rh w3 h Z' R3) (hR3 : ∀ x, R3 x → R x ∨ Made w2 w3 x) (s3 : Stp (fun x => x = h) w2 w3) (n6 : ∀ p ∈ Z'.l, p.needs.length ≤ 6) (la : Z'.last ≤ (k' : Int)) :
    Bx N w3 g h Z' k' E' F' R3 ∧ Stp (fun y => F y ∨ y = h) w w3 := by
  obtain ⟨h1, h2⟩ := B.rh.lt
  obtain ⟨f1, e1, _⟩ := B.gh.lt
  have hNw := B.size
  have z1 := s1.size
  have z2 := b12.size
  have neh : ∀ x, F' x → ¬ x = h := fun x hx e => by
    rcases gF x hx with q | q
    · exact (B.hF x q).2.1 e
    · omega
  have neE : ∀ x, E' x → ¬ x = h := fun x hx e => by
    rcases gE x hx with q | q
    · exact (B.hE x q).2 e
    · omega
  refine ⟨⟨(gh.later b12).step s3 neh neE, rh, fun x hx => ⟨?_, neh x hx, fun hr => ?_⟩, fun x hx => ⟨?_, neE x hx⟩, fun x hx => ?_, B.hN, n6, la⟩, ?_⟩
  · rcases gF x hx with q | q
    · exact (B.hF x q).1
    · omega
  · rcases gF x hx with q | q
    · rcases hR3 x hr with r | r
      · exact (B.hF x q).2.2 r
      · have := f1 x q; have := r.1; omega
    · rcases hR3 x hr with r | r
      · have := h2 x r; omega
      · have := r.1; omega
  · rcases gE x hx with q | q
    · exact (B.hE x q).1
    · omega
  · rcases hR3 x hx with r | r
    · exact B.hR x r
    · have := r.1; omega
  · exact ((s1.mono (fun x e => .inl (.inl e))).trans (Stp.of_below b12 _)).trans (s3.mono (fun x e => .inl (.inr e)))
theorem Bx.low (B : Bx N w g h Z k E F R) (s : Stp (fun y => F y ∨ y = h) w w1) : Below N w w1 := s.below B.size (fun x e => by rcases e with e | e; exact (B.hF x e).1; rw [e]; exact B.hN)
end
/-- An act, put into a block of its own. -/
theorem at_boxA {ops : Array Oper} {rest : List Oper} {o : Oper} {a : Act} {w : World} {Q : Exit → Act → World → Prop} (hw : Region.wanted o (yielded ops a.tmps) = true) (y : Operand) (ho : o.op = .box 32 y) (x : Ac) (hx : a.eval y = .agg x.cs.toArray)
    (h : ∀ g w', w.heap.size ≤ g → g < w'.heap.size → Cs w' g x.cs → Below w.heap.size w w' → wpList Tryz.prog ops Q rest (a.put o.dst (.pointer (some ⟨g, 0, none⟩))) w') : wpList Tryz.prog ops Q (o :: rest) a w := by
  have h0 : (Instr.box 32 (.agg x.cs.toArray)).run Tryz.prog w = .ok (.pointer (some ⟨w.heap.size, 0, none⟩)) (w.alloc (.cells x.cs.toArray 32)) := by
    simp [Instr.box, newVar, Value.cells, go_sem]
  refine op_val hw _ _ ?_ (h w.heap.size _ (Nat.le_refl _) (by simp) (Cs.made w x.cs 32 x.cs_one) ((Below.refl _ _).alloc (Nat.le_refl _) _))
  simp only [execOp, ho, hx, Sem.run_bind, h0]; rfl
theorem uActP : ∃ d, Tryz.prog.underlying 32 = some d ∧ d.isRow = true := ⟨_, Tryz.underlying32, rfl⟩
theorem szActP : (Tryz.prog.info? 32).map (·.size) = some 12 := by kernel_rfl
theorem yields_Ac {ops : Array Oper} {o : Oper} {a : Act} {S : World → Prop} (hw : Region.wanted o (yielded ops a.tmps) = true) (y : Operand) (ho : o.op = .load 32 y) (g : Nat) (hx : a.eval y = .pointer (some ⟨g, 0, none⟩)) (x : Ac) (hS : ∀ w, S w → Cs w g x.cs) :
    YieldsIf Tryz.prog ops S o (.agg x.cs.toArray) a := by
  obtain ⟨d, h1, h2⟩ := uActP
  exact yieldsIf_load_mid hw _ y ho g 0 hx x.cs _ (fun w h => (hS w h).range) h1 h2 (by rw [szActP]; simp [Ac.cs_len])
theorem at_getAc {ops : Array Oper} {rest : List Oper} {o : Oper} {a : Act} {w : World} {Q : Exit → Act → World → Prop} (hw : Region.wanted o (yielded ops a.tmps) = true) (y : Operand) (ho : o.op = .load 32 y) (g i : Nat) (hx : a.eval y = .pointer (some ⟨g, i, none⟩)) (x : Ac) (hr : w.rangeAt g i x.cs)
    (h : wpList Tryz.prog ops Q rest (a.put o.dst (.agg x.cs.toArray)) w) : wpList Tryz.prog ops Q (o :: rest) a w := by
  refine op_val hw _ _ ?_ h
  obtain ⟨d, h1, h2⟩ := uActP
  have : (loadVar 32 ⟨g, i, none⟩).run Tryz.prog w = .ok (.agg x.cs.toArray) w := run_loadVar_mid w g i _ x.cs _ hr h1 h2 (by rw [szActP]; simp [Ac.cs_len])
  simp [execOp, ho, hx, Instr.loadAt, Instr.sureAddr, this]
theorem ptc_wfp' {x : Ac} (h : x.p.wfp) (last : Nat) : (ptc x last).wfp := by
  unfold ptc; split <;> exact ⟨h.i, h.s, h.o, h.k, h.w, h.c⟩
theorem ptc_data' (x : Ac) (last : Nat) : (ptc x last).data.length ≤ 70 := by
  unfold ptc; split <;> (unfold fewP; simp; omega)
theorem ptc_needs' (x : Ac) (last : Nat) : (ptc x last).needs.length ≤ 6 := by
  unfold ptc; split <;> (unfold fewP; simp; omega)
theorem add_n6 {Z : GZ} (h : ∀ p ∈ Z.l, p.needs.length ≤ 6) (p : Pt) (hp : p.needs.length ≤ 6) : ∀ q ∈ (Z.add p).l, q.needs.length ≤ 6 := by
  unfold GZ.add
  split
  · intro q hq
    rcases List.mem_append.1 hq with hq | hq
    · exact h q hq
    · rw [List.mem_singleton.1 hq]; exact hp
  · exact h
theorem add_la {Z : GZ} {k : Nat} (h : Z.last ≤ (k : Int)) (p : Pt) : (Z.add p).last ≤ ((k + 1 : Nat) : Int) := by
  unfold GZ.add
  split
  · simp only; omega
  · omega
end Go.Proofs.YtigchhogclofiaaGreat
namespace Go.Proofs.YtigchhogclofiaaGreat
open Go.ChangeShapes Go.WideShapes Go.ChangeAt Go.RowKit
set_option linter.unusedVariables false
set_option linter.unusedSimpArgs false

/-- What an act leaves. -/
def Dn (N g h k : Nat) (F : Nat → Prop) (w : World) : Ending → World → Prop := fun e w' => e = .returned (.bool true) ∧ (∃ Z' E' F' R', Bx N w' g h Z' (k + 1) E' F' R') ∧ Stp (fun y => F y ∨ y = h) w w'
set_option maxRecDepth 100000 in
set_option maxHeartbeats 4000000 in
theorem do_add {g h k : Nat} {W0 w : World} {Z : GZ} {E F R : Nat → Prop} (B : Bx W0.heap.size w g h Z k E F R) (x : Ac) (hx : x.ok W0) (b0 : Below W0.heap.size W0 w) (hk : k ≤ 60) (hc : among x.d 14 < 7) :
    Calls Tryz.prog 10 #[.pointer (some ⟨g, 0, none⟩), .pointer (some ⟨h, 0, none⟩), .agg x.cs.toArray] w (Dn W0.heap.size g h k F w) := by
  have hA14 := fun (u : World) => among_any x.d 14 u (by omega) (by omega)
  have hci : ((among x.d 14 : Nat) : Int) < 7 := by omega
  generalize among x.d 14 = y at *
  obtain ⟨m, hm⟩ : ∃ m : Nat, Z.last = (m : Int) := ⟨Z.last.toNat, by have := B.gh.ok.l0; omega⟩
  have hm5 : m ≤ 100000 := by have := B.la; omega
  have hlt : Z.last < 2000 := by have := B.la; omega
  have hp := ptc_wfp' hx.p m
  have hpd := ptc_data' x m
  have hpn := ptc_needs' x m
  go_enter Tryz.func10, Tryz.ntmps10
  go_wp2_with (first
    | (refine at_boxA (by rfl) _ (by rfl) x (by rfl) ?_; intro g5 w1 a1 a2 r1 b1
       have cd := r1.cell 0 _ (show x.cs[0]? = some (.int .i64 x.d) from rfl))
    | (go_at_call 6; refine (hA14 _).mono ?_; rintro e w3 ⟨rfl, rfl⟩; clear hA14))
  have B1 := B.later b1
  have b01 := bnext b0 b1 (Nat.le_refl _)
  have hx1 := hx.later b01
  have hg5F : ∀ {F' : Nat → Prop} {w' : World}, Grew F F' w1 w' → ¬ F g5 := fun _ e => by have := B.gh.lt.1 g5 e; omega
  have hnF : ¬ F g5 := fun e => by have := B.gh.lt.1 g5 e; omega
  have hneh : ¬ g5 = h := fun e => by have := B.rh.lt.1; omega
  have zl := B1.rh.last
  rw [hm] at zl
  clear cd hg5F
  refine wp_region_held_drew (S := fun u => Cs u g5 x.cs) (by kernel_rfl) (r1.later (Below.refl _ _).drew) (fun hHeld => ?_)
  refine wpAnyH_take (i := 0) (oi := { dst := some 20, op := Op.move (Operand.tmp 0), type := 23, pos := _, after := #[], guard := none }) (v := .pointer (some ⟨g, 0, none⟩)) rfl (by kernel_rfl) (by kernel_rfl) (by kernel_rfl) (fun _ _ _ h => h) (Or.inl ⟨by rfl, ?_⟩) hHeld ?_
  · intro u hu
    go_simp
  try simp only [Act.put, List.setIfInBounds_toArray, List.set_cons_zero, List.set_cons_succ]
  refine wpAnyH_take (i := 1) (oi := { dst := some 21, op := Op.load 32 (Operand.tmp 5), type := 32, pos := _, after := #[], guard := none }) (v := .agg x.cs.toArray) rfl (by kernel_rfl) (by kernel_rfl) (by kernel_rfl) (fun _ _ _ h => h)
    (yields_Ac (by rfl) _ (by rfl) g5 (by rfl) x (fun u hu => hu)) hHeld ?_
  try simp only [Act.put, List.setIfInBounds_toArray, List.set_cons_zero, List.set_cons_succ]
  refine wpAnyH_take (i := 2) (oi := { dst := some 22, op := Op.move (Operand.tmp 1), type := 25, pos := _, after := #[], guard := none }) (v := .pointer (some ⟨h, 0, none⟩)) rfl (by kernel_rfl) (by kernel_rfl) (by kernel_rfl) (fun _ _ _ h => h) (Or.inl ⟨by rfl, ?_⟩) hHeld ?_
  · intro u hu
    go_simp
  try simp only [Act.put, List.setIfInBounds_toArray, List.set_cons_zero, List.set_cons_succ]
  refine wpAnyH_take (i := 3) (oi := { dst := some 23, op := Op.nilCheck (Operand.tmp 22), type := 0, pos := _, after := #[{ on := 2, ground := Ground.data }], guard := none }) (v := .pointer (some ⟨h, 0, none⟩)) rfl (by kernel_rfl) (by kernel_rfl) (by kernel_rfl) (fun _ _ _ h => h) (Or.inl ⟨by rfl, ?_⟩) hHeld ?_
  · intro u hu
    go_simp
  try simp only [Act.put, List.setIfInBounds_toArray, List.set_cons_zero, List.set_cons_succ]
  refine wpAnyH_take (i := 4) (oi := { dst := some 24, op := Op.fieldAddr 48 (Operand.tmp 23) 0, type := 0, pos := _, after := #[{ on := 3, ground := Ground.data }], guard := none }) (v := .pointer (some ⟨h, 0, none⟩)) rfl (by kernel_rfl) (by kernel_rfl) (by kernel_rfl) (fun _ _ _ h => h) (Or.inl ⟨by rfl, ?_⟩) hHeld ?_
  · intro u hu
    go_simp
  try simp only [Act.put, List.setIfInBounds_toArray, List.set_cons_zero, List.set_cons_succ]
  refine wpAnyH_ready (rs := [5]) (by kernel_rfl) (by simp) ?_
  refine (AllReadyH.cons (o := { dst := some 25, op := Op.load 3 (Operand.tmp 24), type := 3, pos := _, after := #[{ on := 4, ground := Ground.data }], guard := none }) rfl (fun K hK => ?_) AllReadyH.nil)
  have zd := (Stp.of_below (Below.refl w1.heap.size w1).drew (fun _ => False)).cell zl id
  refine step_ld 3 ⟨h, 0, none⟩ (.int .i64 (m : Int)) rfl _ (by rfl) (by rfl) (by go_simp) ?_
  refine hK.out _ _ (hHeld) (fun hHeld => ?_)
  clear hK K
  try simp only [Act.put, List.setIfInBounds_toArray, List.set_cons_zero, List.set_cons_succ]
  refine wpAnyH_ready (rs := [6]) (by kernel_rfl) (by simp) ?_
  refine (AllReadyH.cons (o := { dst := some 26, op := Op.call { callee := Callee.value (Operand.func 20), args := #[Operand.tmp 21, Operand.tmp 25], argTypes := #[32, 3] }, type := 30, pos := _, after := #[{ on := 1, ground := Ground.data }, { on := 5, ground := Ground.data }], guard := none }) rfl (fun K hK => ?_) AllReadyH.nil)
  go_simp
  refine (patch_any x (hx1.later (Below.refl _ _).drew) m hm5).mono ?_
  rintro e w4 ⟨d4, n4, rfl, m4, b4⟩
  have b4' : Below w1.heap.size w1 w4 := bnext (Below.refl _ _).drew b4 (Nat.le_refl _)
  have B4 := B1.later b4'
  have r4 := hHeld.later b4
  try go_wp2_with fail
  refine hK.out _ _ (r4) (fun hHeld => ?_)
  clear hK K
  try simp only [Act.put, List.setIfInBounds_toArray, List.set_cons_zero, List.set_cons_succ]
  refine wpAnyH_ready (rs := [7]) (by kernel_rfl) (by simp) ?_
  refine (AllReadyH.cons (o := { dst := some 27, op := Op.call { callee := Callee.value (Operand.func 9), args := #[Operand.tmp 20, Operand.tmp 26], argTypes := #[23, 30] }, type := 36, pos := _, after := #[{ on := 0, ground := Ground.data }, { on := 6, ground := Ground.data }, { on := 6, ground := Ground.chain }], guard := none }) rfl (fun K hK => ?_) AllReadyH.nil)
  go_simp
  obtain ⟨mp, mw, f, fw, H4⟩ := B4.gh
  refine (add_any H4 (ptc x m) d4 n4 hp m4 (fun y hy e => by have := B1.gh.lt.1 y e; have := hy.1; simp at this; omega) hlt (by omega) (by omega)).mono ?_
  rintro e w5 ⟨rfl, E', F', G5, s5, gF, gE⟩
  try go_wp2_with fail
  refine hK.out _ _ (r4.step s5 hnF) (fun hHeld => ?_)
  clear hK K
  try simp only [Act.put, List.setIfInBounds_toArray, List.set_cons_zero, List.set_cons_succ]
  refine wpAnyH_take (i := 8) (oi := { dst := some 19, op := Op.move (Operand.tmp 27), type := 36, pos := _, after := #[{ on := 7, ground := Ground.data }], guard := none }) (v := .tuple #[.int .i64 (Z.addN (ptc x m)), .int .i64 (Z.addE (ptc x m))]) rfl (by kernel_rfl) (by kernel_rfl) (by kernel_rfl) (fun _ _ _ h => h) (Or.inl ⟨by rfl, ?_⟩) hHeld ?_
  · intro u hu
    go_simp
  try simp only [Act.put, List.setIfInBounds_toArray, List.set_cons_zero, List.set_cons_succ]
  refine wpAnyH_take (i := 9) (oi := { dst := some 28, op := Op.extract (Operand.tmp 19) 0, type := 3, pos := _, after := #[{ on := 8, ground := Ground.data }], guard := none }) (v := .int .i64 (Z.addN (ptc x m))) rfl (by kernel_rfl) (by kernel_rfl) (by kernel_rfl) (fun _ _ _ h => h) (Or.inl ⟨by rfl, ?_⟩) hHeld ?_
  · intro u hu
    go_simp
  try simp only [Act.put, List.setIfInBounds_toArray, List.set_cons_zero, List.set_cons_succ]
  refine wpAnyH_take (i := 10) (oi := { dst := some 29, op := Op.extract (Operand.tmp 19) 1, type := 35, pos := _, after := #[{ on := 8, ground := Ground.data }, { on := 11, ground := Ground.gcOnly Departure.lateStores }], guard := none }) (v := .int .i64 (Z.addE (ptc x m))) rfl (by kernel_rfl) (by kernel_rfl) (by kernel_rfl) (fun _ _ _ h => h) (Or.inl ⟨by rfl, ?_⟩) hHeld ?_
  · intro u hu
    go_simp
  try simp only [Act.put, List.setIfInBounds_toArray, List.set_cons_zero, List.set_cons_succ]
  refine wpAnyH_take (i := 11) (oi := { dst := some 8, op := Op.assign (Operand.tmp 28), type := 3, pos := _, after := #[{ on := 9, ground := Ground.data }, { on := 7, ground := Ground.chain }, { on := 0, ground := Ground.phase }, { on := 1, ground := Ground.phase }, { on := 2, ground := Ground.phase }, { on := 3, ground := Ground.phase }, { on := 4, ground := Ground.phase }, { on := 5, ground := Ground.phase }, { on := 6, ground := Ground.phase }, { on := 7, ground := Ground.phase }, { on := 8, ground := Ground.phase }, { on := 9, ground := Ground.phase }, { on := 10, ground := Ground.textOnly Departure.lateStores }], guard := none }) (v := .int .i64 (Z.addN (ptc x m))) rfl (by kernel_rfl) (by kernel_rfl) (by kernel_rfl) (fun _ _ _ h => h) (Or.inl ⟨by rfl, ?_⟩) hHeld ?_
  · intro u hu
    go_simp
  try simp only [Act.put, List.setIfInBounds_toArray, List.set_cons_zero, List.set_cons_succ]
  refine wpAnyH_take (i := 12) (oi := { dst := some 9, op := Op.assign (Operand.tmp 29), type := 35, pos := _, after := #[{ on := 10, ground := Ground.data }, { on := 11, ground := Ground.chain }, { on := 0, ground := Ground.phase }, { on := 1, ground := Ground.phase }, { on := 2, ground := Ground.phase }, { on := 3, ground := Ground.phase }, { on := 4, ground := Ground.phase }, { on := 5, ground := Ground.phase }, { on := 6, ground := Ground.phase }, { on := 7, ground := Ground.phase }, { on := 8, ground := Ground.phase }, { on := 9, ground := Ground.phase }, { on := 10, ground := Ground.phase }, { on := 11, ground := Ground.phase }], guard := none }) (v := .int .i64 (Z.addE (ptc x m))) rfl (by kernel_rfl) (by kernel_rfl) (by kernel_rfl) (fun _ _ _ h => h) (Or.inl ⟨by rfl, ?_⟩) hHeld ?_
  · intro u hu
    go_simp
  try simp only [Act.put, List.setIfInBounds_toArray, List.set_cons_zero, List.set_cons_succ]
  refine wpAnyH_done (by kernel_rfl) ?_ _
  have r5 : Cs w5 g5 x.cs := hHeld
  have R5 := B4.rh.step s5 (fun e => (B.hF h e).2.1 rfl) (fun y hy e => (B.hF y e).2.2 hy)
  have zl5 := R5.last
  rw [hm] at zl5
  have b05 : Below W0.heap.size W0 w5 := (bnext b01 b4' (Nat.le_refl _)).trans (s5.below B4.size (fun y hy => (B.hF y hy).1))
  have hx5 := hx.later b05
  clear hHeld zl r4
  go_wp2_with fail
  refine wp_region_held_drew (S := fun u => Cs u g5 x.cs) (by kernel_rfl) (r5.later (Below.refl _ _).drew) (fun hHeld => ?_)
  refine wpAnyH_take (i := 0) (oi := { dst := some 31, op := Op.move (Operand.tmp 1), type := 25, pos := _, after := #[], guard := none }) (v := .pointer (some ⟨h, 0, none⟩)) rfl (by kernel_rfl) (by kernel_rfl) (by kernel_rfl) (fun _ _ _ h => h) (Or.inl ⟨by rfl, ?_⟩) hHeld ?_
  · intro u hu
    go_simp
  try simp only [Act.put, List.setIfInBounds_toArray, List.set_cons_zero, List.set_cons_succ]
  refine wpAnyH_take (i := 1) (oi := { dst := some 32, op := Op.load 32 (Operand.tmp 5), type := 32, pos := _, after := #[], guard := none }) (v := .agg x.cs.toArray) rfl (by kernel_rfl) (by kernel_rfl) (by kernel_rfl) (fun _ _ _ h => h)
    (yields_Ac (by rfl) _ (by rfl) g5 (by rfl) x (fun u hu => hu)) hHeld ?_
  try simp only [Act.put, List.setIfInBounds_toArray, List.set_cons_zero, List.set_cons_succ]
  refine wpAnyH_take (i := 2) (oi := { dst := some 33, op := Op.move (Operand.tmp 1), type := 25, pos := _, after := #[], guard := none }) (v := .pointer (some ⟨h, 0, none⟩)) rfl (by kernel_rfl) (by kernel_rfl) (by kernel_rfl) (fun _ _ _ h => h) (Or.inl ⟨by rfl, ?_⟩) hHeld ?_
  · intro u hu
    go_simp
  try simp only [Act.put, List.setIfInBounds_toArray, List.set_cons_zero, List.set_cons_succ]
  refine wpAnyH_take (i := 3) (oi := { dst := some 34, op := Op.nilCheck (Operand.tmp 33), type := 0, pos := _, after := #[{ on := 2, ground := Ground.data }], guard := none }) (v := .pointer (some ⟨h, 0, none⟩)) rfl (by kernel_rfl) (by kernel_rfl) (by kernel_rfl) (fun _ _ _ h => h) (Or.inl ⟨by rfl, ?_⟩) hHeld ?_
  · intro u hu
    go_simp
  try simp only [Act.put, List.setIfInBounds_toArray, List.set_cons_zero, List.set_cons_succ]
  refine wpAnyH_take (i := 4) (oi := { dst := some 35, op := Op.fieldAddr 48 (Operand.tmp 34) 0, type := 0, pos := _, after := #[{ on := 3, ground := Ground.data }], guard := none }) (v := .pointer (some ⟨h, 0, none⟩)) rfl (by kernel_rfl) (by kernel_rfl) (by kernel_rfl) (fun _ _ _ h => h) (Or.inl ⟨by rfl, ?_⟩) hHeld ?_
  · intro u hu
    go_simp
  try simp only [Act.put, List.setIfInBounds_toArray, List.set_cons_zero, List.set_cons_succ]
  refine wpAnyH_ready (rs := [5]) (by kernel_rfl) (by simp) ?_
  refine (AllReadyH.cons (o := { dst := some 36, op := Op.load 3 (Operand.tmp 35), type := 3, pos := _, after := #[{ on := 4, ground := Ground.data }], guard := none }) rfl (fun K hK => ?_) AllReadyH.nil)
  have zd := (Stp.of_below (Below.refl w5.heap.size w5).drew (fun _ => False)).cell zl5 id
  refine step_ld 3 ⟨h, 0, none⟩ (.int .i64 (m : Int)) rfl _ (by rfl) (by rfl) (by go_simp) ?_
  refine hK.out _ _ (hHeld) (fun hHeld => ?_)
  clear hK K
  try simp only [Act.put, List.setIfInBounds_toArray, List.set_cons_zero, List.set_cons_succ]
  refine wpAnyH_ready (rs := [6]) (by kernel_rfl) (by simp) ?_
  refine (AllReadyH.cons (o := { dst := some 37, op := Op.call { callee := Callee.value (Operand.func 20), args := #[Operand.tmp 32, Operand.tmp 36], argTypes := #[32, 3] }, type := 30, pos := _, after := #[{ on := 1, ground := Ground.data }, { on := 5, ground := Ground.data }], guard := none }) rfl (fun K hK => ?_) AllReadyH.nil)
  go_simp
  refine (patch_any x (hx5.later (Below.refl _ _).drew) m hm5).mono ?_
  rintro e w6 ⟨d6, n6, rfl, m6, b6⟩
  have b6' : Below w5.heap.size w5 w6 := bnext (Below.refl _ _).drew b6 (Nat.le_refl _)
  have r6 := hHeld.later b6
  try go_wp2_with fail
  refine hK.out _ _ (r6) (fun hHeld => ?_)
  clear hK K
  try simp only [Act.put, List.setIfInBounds_toArray, List.set_cons_zero, List.set_cons_succ]
  refine wpAnyH_ready (rs := [7]) (by kernel_rfl) (by simp) ?_
  refine (AllReadyH.cons (o := { dst := some 38, op := Op.call { callee := Callee.value (Operand.func 21), args := #[Operand.tmp 31, Operand.tmp 37], argTypes := #[25, 30] }, type := 36, pos := _, after := #[{ on := 0, ground := Ground.data }, { on := 6, ground := Ground.data }, { on := 6, ground := Ground.chain }], guard := none }) rfl (fun K hK => ?_) AllReadyH.nil)
  go_simp
  obtain ⟨ra, rc, rL, R6⟩ := R5.later b6'
  refine (radd_any R6 (ptc x m) d6 n6 hp m6 (fun y hy e => by have := R5.lt.1; have := hy.1; simp at this; omega) hlt (by omega) (by omega)).mono ?_
  rintro e w7 ⟨rfl, R7, s7⟩
  try go_wp2_with fail
  refine hK.out _ _ (r6.step s7 hneh) (fun hHeld => ?_)
  clear hK K
  try simp only [Act.put, List.setIfInBounds_toArray, List.set_cons_zero, List.set_cons_succ]
  refine wpAnyH_take (i := 8) (oi := { dst := some 30, op := Op.move (Operand.tmp 38), type := 36, pos := _, after := #[{ on := 7, ground := Ground.data }], guard := none }) (v := .tuple #[.int .i64 (Z.addN (ptc x m)), .int .i64 (Z.addE (ptc x m))]) rfl (by kernel_rfl) (by kernel_rfl) (by kernel_rfl) (fun _ _ _ h => h) (Or.inl ⟨by rfl, ?_⟩) hHeld ?_
  · intro u hu
    go_simp
  try simp only [Act.put, List.setIfInBounds_toArray, List.set_cons_zero, List.set_cons_succ]
  refine wpAnyH_take (i := 9) (oi := { dst := some 39, op := Op.extract (Operand.tmp 30) 0, type := 3, pos := _, after := #[{ on := 8, ground := Ground.data }], guard := none }) (v := .int .i64 (Z.addN (ptc x m))) rfl (by kernel_rfl) (by kernel_rfl) (by kernel_rfl) (fun _ _ _ h => h) (Or.inl ⟨by rfl, ?_⟩) hHeld ?_
  · intro u hu
    go_simp
  try simp only [Act.put, List.setIfInBounds_toArray, List.set_cons_zero, List.set_cons_succ]
  refine wpAnyH_take (i := 10) (oi := { dst := some 40, op := Op.extract (Operand.tmp 30) 1, type := 35, pos := _, after := #[{ on := 8, ground := Ground.data }, { on := 11, ground := Ground.gcOnly Departure.lateStores }], guard := none }) (v := .int .i64 (Z.addE (ptc x m))) rfl (by kernel_rfl) (by kernel_rfl) (by kernel_rfl) (fun _ _ _ h => h) (Or.inl ⟨by rfl, ?_⟩) hHeld ?_
  · intro u hu
    go_simp
  try simp only [Act.put, List.setIfInBounds_toArray, List.set_cons_zero, List.set_cons_succ]
  refine wpAnyH_take (i := 11) (oi := { dst := some 10, op := Op.assign (Operand.tmp 39), type := 3, pos := _, after := #[{ on := 9, ground := Ground.data }, { on := 7, ground := Ground.chain }, { on := 0, ground := Ground.phase }, { on := 1, ground := Ground.phase }, { on := 2, ground := Ground.phase }, { on := 3, ground := Ground.phase }, { on := 4, ground := Ground.phase }, { on := 5, ground := Ground.phase }, { on := 6, ground := Ground.phase }, { on := 7, ground := Ground.phase }, { on := 8, ground := Ground.phase }, { on := 9, ground := Ground.phase }, { on := 10, ground := Ground.textOnly Departure.lateStores }], guard := none }) (v := .int .i64 (Z.addN (ptc x m))) rfl (by kernel_rfl) (by kernel_rfl) (by kernel_rfl) (fun _ _ _ h => h) (Or.inl ⟨by rfl, ?_⟩) hHeld ?_
  · intro u hu
    go_simp
  try simp only [Act.put, List.setIfInBounds_toArray, List.set_cons_zero, List.set_cons_succ]
  refine wpAnyH_take (i := 12) (oi := { dst := some 11, op := Op.assign (Operand.tmp 40), type := 35, pos := _, after := #[{ on := 10, ground := Ground.data }, { on := 11, ground := Ground.chain }, { on := 0, ground := Ground.phase }, { on := 1, ground := Ground.phase }, { on := 2, ground := Ground.phase }, { on := 3, ground := Ground.phase }, { on := 4, ground := Ground.phase }, { on := 5, ground := Ground.phase }, { on := 6, ground := Ground.phase }, { on := 7, ground := Ground.phase }, { on := 8, ground := Ground.phase }, { on := 9, ground := Ground.phase }, { on := 10, ground := Ground.phase }, { on := 11, ground := Ground.phase }], guard := none }) (v := .int .i64 (Z.addE (ptc x m))) rfl (by kernel_rfl) (by kernel_rfl) (by kernel_rfl) (fun _ _ _ h => h) (Or.inl ⟨by rfl, ?_⟩) hHeld ?_
  · intro u hu
    go_simp
  try simp only [Act.put, List.setIfInBounds_toArray, List.set_cons_zero, List.set_cons_succ]
  refine wpAnyH_done (by kernel_rfl) ?_ _
  obtain ⟨B7, b7⟩ := B4.pair (k' := k + 1) G5 s5 gF gE b6' R7 (fun y hy => hy.1) s7 (add_n6 B.n6 _ hpn) (add_la B.la _)
  generalize Z.addN (ptc x m) = e1 at *
  generalize Z.addE (ptc x m) = e2 at *
  clear hHeld
  go_wp2_with fail
  go_returns
  exact ⟨by simp, ⟨_, _, _, _, B7⟩, (Stp.of_below (bnext b1 b4' (Nat.le_refl _)) _).trans b7⟩
end Go.Proofs.YtigchhogclofiaaGreat
namespace Go.Proofs.YtigchhogclofiaaGreat
open Go.ChangeShapes Go.WideShapes Go.ChangeAt Go.RowKit
set_option linter.unusedVariables false
set_option linter.unusedSimpArgs false

theorem wr_la {Z : GZ} {k : Nat} (h : Z.last ≤ (k : Int)) (l : List Int) : (Z.wr l).last ≤ ((k + 1 : Nat) : Int) := by
  rw [(core_wr l Z).2]; omega
theorem stl_la {Z : GZ} {k : Nat} (h : Z.last ≤ (k : Int)) (q : Pt → Bool) : (Z.stl q).last ≤ ((k + 1 : Nat) : Int) := by
  show Z.last ≤ _; omega
theorem stl_n6 {Z : GZ} (h : ∀ p ∈ Z.l, p.needs.length ≤ 6) (q : Pt → Bool) : ∀ p ∈ (Z.stl q).l, p.needs.length ≤ 6 := fun p hp => h p (List.mem_filter.1 hp).1
set_option maxRecDepth 100000 in
set_option maxHeartbeats 4000000 in
theorem do_ready {g h k : Nat} {W0 w : World} {Z : GZ} {E F R : Nat → Prop} (B : Bx W0.heap.size w g h Z k E F R) (x : Ac) (hx : x.ok W0) (b0 : Below W0.heap.size W0 w) (hk : k ≤ 60) (hc : 7 ≤ among x.d 14 ∧ among x.d 14 < 10) :
    Calls Tryz.prog 10 #[.pointer (some ⟨g, 0, none⟩), .pointer (some ⟨h, 0, none⟩), .agg x.cs.toArray] w (Dn W0.heap.size g h k F w) := by
  have hA14 := fun (u : World) => among_any x.d 14 u (by omega) (by omega)
  have hci : ¬ ((among x.d 14 : Nat) : Int) < 7 := by omega
  have hcj : ((among x.d 14 : Nat) : Int) < 10 := by omega
  generalize among x.d 14 = y at *
  have ok := B.gh.ok
  have hwn := hx.n
  have hw1 := wf_rdy ok x.n
  have hw2 := len_rdy ok x.n
  have hgh := B.gh
  have hrh := B.rh
  have tk : True := trivial
  go_enter Tryz.func10, Tryz.ntmps10
  go_wp2_with (first
    | (refine at_boxA (by rfl) _ (by rfl) x (by rfl) ?_; intro g5 w1 a1 a2 r1 b1
       have cd := r1.cell 0 _ (show x.cs[0]? = some (.int .i64 x.d) from rfl)
       have cn := r1.cell 1 _ (show x.cs[1]? = some (.int .i64 x.n) from rfl)
       obtain ⟨ra, rc, rL, R1⟩ := hrh.later b1)
    | (go_at_call 6; refine (hA14 _).mono ?_; rintro e w2 ⟨rfl, rfl⟩; clear hA14)
    | (go_at_call 22; refine (up2 (rready_any R1 x.n) rfl hw1).mono ?_; rintro e w3 ⟨s3, rfl, i3, b3, j3⟩
       have cn3 := (r1.later b3).cell 1 _ (show x.cs[1]? = some (.int .i64 x.n) from rfl)
       have b13 := bnext b1 b3 (Nat.le_refl _)
       obtain ⟨mp, mw, f, fw, H3⟩ := hgh.later b13)
    | (go_at_call 24; refine (up2 (ready_any H3 x.n hwn B.nl) rfl hw1).mono ?_; rintro e w4 ⟨s4, rfl, i4, b4, j4⟩
       have i34 := i3.later b4)
    | (go_at_call 23; refine (same_any i4 i34 hw2).mono ?_; rintro e w5 ⟨rfl, b5⟩
       have i35 := i34.later b5
       have b15 := bnext (bnext b13 b4 (Nat.le_refl _)) b5 (Nat.le_refl _))
    | (go_at_call 26; refine (ints_any i35 hw2).mono ?_; rintro e w6 ⟨s6, rfl, i6, j6, b6⟩
       have i36 := i35.later b6
       have b16 := bnext b15 b6 (Nat.le_refl _)
       have B6 := B.later b16)
    | (go_at_call 25; refine (write_any B6.gh i6 j6 (fun y hy e => by have := B.gh.lt.1 y e; have := hy.1; have := b15.size; omega) (by omega) B.nl).mono ?_; rintro e w7 ⟨rfl, G7, s7⟩
       have i37 := i36.step s7 j3 (fun y hy e => by have := B.gh.lt.1 y e; have := hy.1; have := b1.size; omega)
       have R7 := B6.rh.step s7 (fun e => (B.hF h e).2.1 rfl) (fun y hy e => (B.hF y e).2.2 hy))
    | (go_at_call 27; refine (rwrite_any R7 i37 (j3.mono (fun y hy e => by have := B.rh.lt.1; have := hy.1; have := b1.size; omega)) hw2).mono ?_; rintro e w8 ⟨rfl, R8, s8⟩))
  obtain ⟨B8, b8⟩ := B6.pair (k' := k + 1) G7 s7 (Grew.refl _ _ _) (Grew.refl _ _ _) (Below.refl _ _) R8 (fun y hy => hy.1) s8 (wr_needs _ B.n6) (wr_la B.la _)
  go_returns
  exact ⟨by simp, ⟨_, _, _, _, B8⟩, (Stp.of_below b16 _).trans b8⟩
set_option maxRecDepth 100000 in
set_option maxHeartbeats 4000000 in
theorem do_all {g h k : Nat} {W0 w : World} {Z : GZ} {E F R : Nat → Prop} (B : Bx W0.heap.size w g h Z k E F R) (x : Ac) (hx : x.ok W0) (b0 : Below W0.heap.size W0 w) (hk : k ≤ 60) (hc : among x.d 14 = 12) :
    Calls Tryz.prog 10 #[.pointer (some ⟨g, 0, none⟩), .pointer (some ⟨h, 0, none⟩), .agg x.cs.toArray] w (Dn W0.heap.size g h k F w) := by
  have hA14 := fun (u : World) => among_any x.d 14 u (by omega) (by omega)
  rw [hc] at hA14
  have hgh := B.gh
  go_enter Tryz.func10, Tryz.ntmps10
  go_wp2_with (first
    | (refine at_boxA (by rfl) _ (by rfl) x (by rfl) ?_; intro g5 w1 a1 a2 r1 b1
       have cd := r1.cell 0 _ (show x.cs[0]? = some (.int .i64 x.d) from rfl)
       have B1 := B.later b1
       obtain ⟨mp, mw, f, fw, H1⟩ := B1.gh)
    | (go_at_call 6; refine (hA14 _).mono ?_; rintro e w2 ⟨rfl, rfl⟩; clear hA14)
    | (go_at_call 8; refine (settleAll_any H1).mono ?_; rintro e w7 ⟨rfl, G7, s7⟩
       have R7 := B1.rh.step s7 (fun e => (B.hF h e).2.1 rfl) (fun y hy e => (B.hF y e).2.2 hy))
    | (go_at_call 30; refine (rsettleAll_any R7).mono ?_; rintro e w8 ⟨rfl, R8, s8⟩))
  obtain ⟨B8, b8⟩ := B1.pair (k' := k + 1) G7 s7 (Grew.refl _ _ _) (Grew.refl _ _ _) (Below.refl _ _) R8 (fun y hy => hy) s8 (stl_n6 B.n6 _) (stl_la B.la _)
  go_returns
  exact ⟨by simp, ⟨_, _, _, _, B8⟩, (Stp.of_below b1 _).trans b8⟩
set_option maxRecDepth 100000 in
set_option maxHeartbeats 4000000 in
theorem do_settle {g h k : Nat} {W0 w : World} {Z : GZ} {E F R : Nat → Prop} (B : Bx W0.heap.size w g h Z k E F R) (x : Ac) (hx : x.ok W0) (b0 : Below W0.heap.size W0 w) (hk : k ≤ 60) (hc : among x.d 14 = 11) :
    Calls Tryz.prog 10 #[.pointer (some ⟨g, 0, none⟩), .pointer (some ⟨h, 0, none⟩), .agg x.cs.toArray] w (Dn W0.heap.size g h k F w) := by
  have hA14 := fun (u : World) => among_any x.d 14 u (by omega) (by omega)
  rw [hc] at hA14
  have hgh := B.gh
  go_enter Tryz.func10, Tryz.ntmps10
  go_wp2_with (first
    | (refine at_boxA (by rfl) _ (by rfl) x (by rfl) ?_; intro g5 w1 a1 a2 r1 b1
       have cd := r1.cell 0 _ (show x.cs[0]? = some (.int .i64 x.d) from rfl)
       have B1 := B.later b1)
    | (go_at_call 6; refine (hA14 _).mono ?_; rintro e w2 ⟨rfl, rfl⟩; clear hA14))
  have hnF : ¬ F g5 := fun e => by have := B.gh.lt.1 g5 e; omega
  have hneh : ¬ g5 = h := fun e => by have := B.rh.lt.1; omega
  have bd : Below w1.heap.size w1 w1.drew := (Below.refl _ _).drew
  have Bd := B1.later bd
  obtain ⟨mp, mw, f, fw, H1⟩ := Bd.gh
  refine wp_region_held_drew (S := fun u => Cs u g5 x.cs) (by kernel_rfl) (r1.later bd) (fun hHeld => ?_)
  refine wpAnyH_take (i := 0) (oi := { dst := some 95, op := Op.move (Operand.tmp 0), type := 23, pos := _, after := #[], guard := none }) (v := .pointer (some ⟨g, 0, none⟩)) rfl (by kernel_rfl) (by kernel_rfl) (by kernel_rfl) (fun _ _ _ h => h) (Or.inl ⟨by rfl, ?_⟩) hHeld ?_
  · intro u hu
    go_simp
  try simp only [Act.put, List.setIfInBounds_toArray, List.set_cons_zero, List.set_cons_succ]
  refine wpAnyH_take (i := 1) (oi := { dst := some 96, op := Op.fieldAddr 32 (Operand.tmp 5) 1, type := 0, pos := _, after := #[], guard := none }) (v := .pointer (some ⟨g5, 1, none⟩)) rfl (by kernel_rfl) (by kernel_rfl) (by kernel_rfl) (fun _ _ _ h => h) (Or.inl ⟨by rfl, ?_⟩) hHeld ?_
  · intro u hu
    go_simp
  try simp only [Act.put, List.setIfInBounds_toArray, List.set_cons_zero, List.set_cons_succ]
  refine wpAnyH_take (i := 2) (oi := { dst := some 97, op := Op.load 3 (Operand.tmp 96), type := 3, pos := _, after := #[{ on := 1, ground := Ground.data }], guard := none }) (v := .int .i64 x.n) rfl (by kernel_rfl) (by kernel_rfl) (by kernel_rfl) (fun _ _ _ h => h) (Or.inl ⟨by rfl, ?_⟩) hHeld ?_
  · intro u hu
    have x1 := hu.cell 1 _ (show x.cs[1]? = some (.int .i64 x.n) from rfl); go_simp
  try simp only [Act.put, List.setIfInBounds_toArray, List.set_cons_zero, List.set_cons_succ]
  refine wpAnyH_take (i := 4) (oi := { dst := some 99, op := Op.move (Operand.tmp 1), type := 25, pos := _, after := #[], guard := none }) (v := .pointer (some ⟨h, 0, none⟩)) rfl (by kernel_rfl) (by kernel_rfl) (by kernel_rfl) (fun _ _ _ h => h) (Or.inl ⟨by rfl, ?_⟩) hHeld ?_
  · intro u hu
    go_simp
  try simp only [Act.put, List.setIfInBounds_toArray, List.set_cons_zero, List.set_cons_succ]
  refine wpAnyH_take (i := 5) (oi := { dst := some 100, op := Op.fieldAddr 32 (Operand.tmp 5) 1, type := 0, pos := _, after := #[], guard := none }) (v := .pointer (some ⟨g5, 1, none⟩)) rfl (by kernel_rfl) (by kernel_rfl) (by kernel_rfl) (fun _ _ _ h => h) (Or.inl ⟨by rfl, ?_⟩) hHeld ?_
  · intro u hu
    go_simp
  try simp only [Act.put, List.setIfInBounds_toArray, List.set_cons_zero, List.set_cons_succ]
  refine wpAnyH_take (i := 6) (oi := { dst := some 101, op := Op.load 3 (Operand.tmp 100), type := 3, pos := _, after := #[{ on := 5, ground := Ground.data }], guard := none }) (v := .int .i64 x.n) rfl (by kernel_rfl) (by kernel_rfl) (by kernel_rfl) (fun _ _ _ h => h) (Or.inl ⟨by rfl, ?_⟩) hHeld ?_
  · intro u hu
    have x1 := hu.cell 1 _ (show x.cs[1]? = some (.int .i64 x.n) from rfl); go_simp
  try simp only [Act.put, List.setIfInBounds_toArray, List.set_cons_zero, List.set_cons_succ]
  refine wpAnyH_ready (rs := [3]) (by kernel_rfl) (by simp) ?_
  refine (AllReadyH.cons (o := { dst := some 98, op := Op.call { callee := Callee.value (Operand.func 28), args := #[Operand.tmp 95, Operand.tmp 97], argTypes := #[23, 3] }, type := 3, pos := _, after := #[{ on := 0, ground := Ground.data }, { on := 2, ground := Ground.data }], guard := none }) rfl (fun K hK => ?_) AllReadyH.nil)
  go_simp
  refine (settleOf_any H1 x.n).mono ?_
  rintro e w7 ⟨rfl, G7, s7⟩
  have R7 := Bd.rh.step s7 (fun e => (B.hF h e).2.1 rfl) (fun y hy e => (B.hF y e).2.2 hy)
  try go_wp2_with fail
  refine hK.out _ _ (hHeld.step s7 hnF) (fun hHeld => ?_)
  clear hK K
  try simp only [Act.put, List.setIfInBounds_toArray, List.set_cons_zero, List.set_cons_succ]
  refine wpAnyH_ready (rs := [7]) (by kernel_rfl) (by simp) ?_
  refine (AllReadyH.cons (o := { dst := some 102, op := Op.call { callee := Callee.value (Operand.func 29), args := #[Operand.tmp 99, Operand.tmp 101], argTypes := #[25, 3] }, type := 3, pos := _, after := #[{ on := 4, ground := Ground.data }, { on := 6, ground := Ground.data }, { on := 3, ground := Ground.chain }], guard := none }) rfl (fun K hK => ?_) AllReadyH.nil)
  go_simp
  refine (rsettleOf_any R7 x.n).mono ?_
  rintro e w8 ⟨rfl, R8, s8⟩
  try go_wp2_with fail
  refine hK.out _ _ (hHeld.step s8 hneh) (fun hHeld => ?_)
  clear hK K
  try simp only [Act.put, List.setIfInBounds_toArray, List.set_cons_zero, List.set_cons_succ]
  refine wpAnyH_take (i := 8) (oi := { dst := some 103, op := Op.binOp BinOp.eql 3 (Operand.tmp 98) (Operand.tmp 102) 3, type := 4, pos := _, after := #[{ on := 3, ground := Ground.data }, { on := 7, ground := Ground.data }], guard := none }) (v := .bool true) rfl (by kernel_rfl) (by kernel_rfl) (by kernel_rfl) (fun _ _ _ h => h) (Or.inl ⟨by rfl, ?_⟩) hHeld ?_
  · intro u hu
    go_simp
  try simp only [Act.put, List.setIfInBounds_toArray, List.set_cons_zero, List.set_cons_succ]
  refine wpAnyH_take (i := 9) (oi := { dst := some 6, op := Op.assign (Operand.tmp 103), type := 4, pos := _, after := #[{ on := 8, ground := Ground.data }, { on := 7, ground := Ground.chain }, { on := 0, ground := Ground.phase }, { on := 1, ground := Ground.phase }, { on := 2, ground := Ground.phase }, { on := 3, ground := Ground.phase }, { on := 4, ground := Ground.phase }, { on := 5, ground := Ground.phase }, { on := 6, ground := Ground.phase }, { on := 7, ground := Ground.phase }, { on := 8, ground := Ground.phase }], guard := none }) (v := .bool true) rfl (by kernel_rfl) (by kernel_rfl) (by kernel_rfl) (fun _ _ _ h => h) (Or.inl ⟨by rfl, ?_⟩) hHeld ?_
  · intro u hu
    go_simp
  try simp only [Act.put, List.setIfInBounds_toArray, List.set_cons_zero, List.set_cons_succ]
  refine wpAnyH_done (by kernel_rfl) ?_ _
  obtain ⟨B8, b8⟩ := Bd.pair (k' := k + 1) G7 s7 (Grew.refl _ _ _) (Grew.refl _ _ _) (Below.refl _ _) R8 (fun y hy => hy) s8 (stl_n6 B.n6 _) (stl_la B.la _)
  clear hHeld
  go_wp2_with fail
  go_returns
  exact ⟨by simp, ⟨_, _, _, _, B8⟩, (Stp.of_below (bnext b1 bd (Nat.le_refl _)) _).trans b8⟩
end Go.Proofs.YtigchhogclofiaaGreat
namespace Go.Proofs.YtigchhogclofiaaGreat
open Go.ChangeShapes Go.WideShapes Go.ChangeAt Go.RowKit
set_option linter.unusedVariables false
set_option linter.unusedSimpArgs false

set_option maxRecDepth 100000 in
set_option maxHeartbeats 4000000 in
theorem do_write {g h k : Nat} {W0 w : World} {Z : GZ} {E F R : Nat → Prop} (B : Bx W0.heap.size w g h Z k E F R) (x : Ac) (hx : x.ok W0) (b0 : Below W0.heap.size W0 w) (hk : k ≤ 60) (hc : among x.d 14 = 10) (hn : x.n ≤ 1152921504606846976) :
    Calls Tryz.prog 10 #[.pointer (some ⟨g, 0, none⟩), .pointer (some ⟨h, 0, none⟩), .agg x.cs.toArray] w (Dn W0.heap.size g h k F w) := by
  have hA14 := fun (u : World) => among_any x.d 14 u (by omega) (by omega)
  rw [hc] at hA14
  have hwn := hx.n
  have hwn1 : wfi (x.n + 1) := wfi_of (by have := wfi_to hx.n; omega)
  have hwr : IntKind.i64.wrap (x.n + 1) = x.n + 1 := by rw [IntKind.wrap_i64]; have := wfi_to hx.n; omega
  have hgh := B.gh
  go_enter Tryz.func10, Tryz.ntmps10
  go_wp2_with (first
    | (refine at_boxA (by rfl) _ (by rfl) x (by rfl) ?_; intro g5 w1 a1 a2 r1 b1
       have cd := r1.cell 0 _ (show x.cs[0]? = some (.int .i64 x.d) from rfl)
       have B1 := B.later b1)
    | (go_at_call 6; refine (hA14 _).mono ?_; rintro e w2 ⟨rfl, rfl⟩; clear hA14))
  have hnF : ¬ F g5 := fun e => by have := B.gh.lt.1 g5 e; omega
  have hneh : ¬ g5 = h := fun e => by have := B.rh.lt.1; omega
  have hfr : ∀ y, w.heap.size ≤ y → ¬ F y := fun y hy e => by have := B.gh.lt.1 y e; omega
  have hfh : ∀ y, w.heap.size ≤ y → y ≠ h := fun y hy e => by have := B.rh.lt.1; omega
  have bd : Below w1.heap.size w1 w1.drew := (Below.refl _ _).drew
  have Bd := B1.later bd
  have bq := bnext b1 bd (Nat.le_refl _)
  have zz : w.heap.size ≤ w1.drew.heap.size := Nat.le_trans b1.size bd.size
  have tail : ∀ {w6 w7 w8 w9 : World}, Bx W0.heap.size w6 g h Z k E F R → Below w.heap.size w w6 → Gh w7 g (Z.wr [x.n, x.n + 1]) E F → Stp F w6 w7 → Below w7.heap.size w7 w8 → Rh w9 h (Z.wr [x.n, x.n + 1]) (fun y => (R y ∨ Made w8 w9 y) ∧ y ≠ h) → Stp (fun y => y = h) w8 w9 →
      (∃ Z' E' F' R', Bx W0.heap.size w9 g h Z' (k + 1) E' F' R') ∧ Stp (fun y => F y ∨ y = h) w w9 := fun {w6 w7 w8 w9} B6 b6 G7 s7 b8 R9 s9 => by
    obtain ⟨B9, b9⟩ := B6.pair (k' := k + 1) G7 s7 (Grew.refl _ _ _) (Grew.refl _ _ _) b8 R9 (fun y hy => hy.1) s9 (wr_needs _ B.n6) (wr_la B.la _)
    exact ⟨⟨_, _, _, _, B9⟩, (Stp.of_below b6 _).trans b9⟩
  have hnl := B.nl
  clear cd hgh
  refine wp_region_held_drew (S := fun u => Cs u g5 x.cs) (by kernel_rfl) (r1.later bd) (fun hHeld => ?_)
  refine wpAnyH_take (i := 0) (oi := { dst := some 75, op := Op.move (Operand.tmp 0), type := 23, pos := _, after := #[], guard := none }) (v := .pointer (some ⟨g, 0, none⟩)) rfl (by kernel_rfl) (by kernel_rfl) (by kernel_rfl) (fun _ _ _ h => h) (Or.inl ⟨by rfl, ?_⟩) hHeld ?_
  · intro u hu
    go_simp
  try simp only [Act.put, List.setIfInBounds_toArray, List.set_cons_zero, List.set_cons_succ]
  refine wpAnyH_take (i := 1) (oi := { dst := some 76, op := Op.fieldAddr 32 (Operand.tmp 5) 1, type := 0, pos := _, after := #[], guard := none }) (v := .pointer (some ⟨g5, 1, none⟩)) rfl (by kernel_rfl) (by kernel_rfl) (by kernel_rfl) (fun _ _ _ h => h) (Or.inl ⟨by rfl, ?_⟩) hHeld ?_
  · intro u hu
    go_simp
  try simp only [Act.put, List.setIfInBounds_toArray, List.set_cons_zero, List.set_cons_succ]
  refine wpAnyH_take (i := 2) (oi := { dst := some 77, op := Op.load 3 (Operand.tmp 76), type := 3, pos := _, after := #[{ on := 1, ground := Ground.data }], guard := none }) (v := .int .i64 x.n) rfl (by kernel_rfl) (by kernel_rfl) (by kernel_rfl) (fun _ _ _ h => h) (Or.inl ⟨by rfl, ?_⟩) hHeld ?_
  · intro u hu
    have x1 := hu.cell 1 _ (show x.cs[1]? = some (.int .i64 x.n) from rfl); go_simp
  try simp only [Act.put, List.setIfInBounds_toArray, List.set_cons_zero, List.set_cons_succ]
  refine wpAnyH_take (i := 3) (oi := { dst := some 78, op := Op.fieldAddr 32 (Operand.tmp 5) 1, type := 0, pos := _, after := #[], guard := none }) (v := .pointer (some ⟨g5, 1, none⟩)) rfl (by kernel_rfl) (by kernel_rfl) (by kernel_rfl) (fun _ _ _ h => h) (Or.inl ⟨by rfl, ?_⟩) hHeld ?_
  · intro u hu
    go_simp
  try simp only [Act.put, List.setIfInBounds_toArray, List.set_cons_zero, List.set_cons_succ]
  refine wpAnyH_take (i := 4) (oi := { dst := some 79, op := Op.load 3 (Operand.tmp 78), type := 3, pos := _, after := #[{ on := 3, ground := Ground.data }], guard := none }) (v := .int .i64 x.n) rfl (by kernel_rfl) (by kernel_rfl) (by kernel_rfl) (fun _ _ _ h => h) (Or.inl ⟨by rfl, ?_⟩) hHeld ?_
  · intro u hu
    have x1 := hu.cell 1 _ (show x.cs[1]? = some (.int .i64 x.n) from rfl); go_simp
  try simp only [Act.put, List.setIfInBounds_toArray, List.set_cons_zero, List.set_cons_succ]
  refine wpAnyH_take (i := 5) (oi := { dst := some 80, op := Op.binOp BinOp.add 3 (Operand.tmp 79) (Operand.const (Value.int IntKind.i64 1)) 3, type := 3, pos := _, after := #[{ on := 4, ground := Ground.data }], guard := none }) (v := .int .i64 (x.n + 1)) rfl (by kernel_rfl) (by kernel_rfl) (by kernel_rfl) (fun _ _ _ h => h) (Or.inl ⟨by rfl, ?_⟩) hHeld ?_
  · intro u hu
    go_simp
  try simp only [Act.put, List.setIfInBounds_toArray, List.set_cons_zero, List.set_cons_succ]
  refine wpAnyH_take (i := 8) (oi := { dst := some 83, op := Op.move (Operand.tmp 1), type := 25, pos := _, after := #[], guard := none }) (v := .pointer (some ⟨h, 0, none⟩)) rfl (by kernel_rfl) (by kernel_rfl) (by kernel_rfl) (fun _ _ _ h => h) (Or.inl ⟨by rfl, ?_⟩) hHeld ?_
  · intro u hu
    go_simp
  try simp only [Act.put, List.setIfInBounds_toArray, List.set_cons_zero, List.set_cons_succ]
  refine wpAnyH_take (i := 9) (oi := { dst := some 84, op := Op.fieldAddr 32 (Operand.tmp 5) 1, type := 0, pos := _, after := #[], guard := none }) (v := .pointer (some ⟨g5, 1, none⟩)) rfl (by kernel_rfl) (by kernel_rfl) (by kernel_rfl) (fun _ _ _ h => h) (Or.inl ⟨by rfl, ?_⟩) hHeld ?_
  · intro u hu
    go_simp
  try simp only [Act.put, List.setIfInBounds_toArray, List.set_cons_zero, List.set_cons_succ]
  refine wpAnyH_take (i := 10) (oi := { dst := some 85, op := Op.load 3 (Operand.tmp 84), type := 3, pos := _, after := #[{ on := 9, ground := Ground.data }], guard := none }) (v := .int .i64 x.n) rfl (by kernel_rfl) (by kernel_rfl) (by kernel_rfl) (fun _ _ _ h => h) (Or.inl ⟨by rfl, ?_⟩) hHeld ?_
  · intro u hu
    have x1 := hu.cell 1 _ (show x.cs[1]? = some (.int .i64 x.n) from rfl); go_simp
  try simp only [Act.put, List.setIfInBounds_toArray, List.set_cons_zero, List.set_cons_succ]
  refine wpAnyH_take (i := 11) (oi := { dst := some 86, op := Op.fieldAddr 32 (Operand.tmp 5) 1, type := 0, pos := _, after := #[], guard := none }) (v := .pointer (some ⟨g5, 1, none⟩)) rfl (by kernel_rfl) (by kernel_rfl) (by kernel_rfl) (fun _ _ _ h => h) (Or.inl ⟨by rfl, ?_⟩) hHeld ?_
  · intro u hu
    go_simp
  try simp only [Act.put, List.setIfInBounds_toArray, List.set_cons_zero, List.set_cons_succ]
  refine wpAnyH_take (i := 12) (oi := { dst := some 87, op := Op.load 3 (Operand.tmp 86), type := 3, pos := _, after := #[{ on := 11, ground := Ground.data }], guard := none }) (v := .int .i64 x.n) rfl (by kernel_rfl) (by kernel_rfl) (by kernel_rfl) (fun _ _ _ h => h) (Or.inl ⟨by rfl, ?_⟩) hHeld ?_
  · intro u hu
    have x1 := hu.cell 1 _ (show x.cs[1]? = some (.int .i64 x.n) from rfl); go_simp
  try simp only [Act.put, List.setIfInBounds_toArray, List.set_cons_zero, List.set_cons_succ]
  refine wpAnyH_take (i := 13) (oi := { dst := some 88, op := Op.binOp BinOp.add 3 (Operand.tmp 87) (Operand.const (Value.int IntKind.i64 1)) 3, type := 3, pos := _, after := #[{ on := 12, ground := Ground.data }], guard := none }) (v := .int .i64 (x.n + 1)) rfl (by kernel_rfl) (by kernel_rfl) (by kernel_rfl) (fun _ _ _ h => h) (Or.inl ⟨by rfl, ?_⟩) hHeld ?_
  · intro u hu
    go_simp
  try simp only [Act.put, List.setIfInBounds_toArray, List.set_cons_zero, List.set_cons_succ]
  refine wpAnyH_ready (rs := [6, 14]) (by kernel_rfl) (by simp) ?_
  refine (AllReadyH.cons (o := { dst := some 81, op := Op.buildSlice 28 2 #[(0, Operand.tmp 77), (1, Operand.tmp 80)], type := 28, pos := _, after := #[{ on := 2, ground := Ground.data }, { on := 5, ground := Ground.data }], guard := none }) rfl (fun K hK => ?_) (AllReadyH.cons (o := { dst := some 89, op := Op.buildSlice 28 2 #[(0, Operand.tmp 85), (1, Operand.tmp 88)], type := 28, pos := _, after := #[{ on := 10, ground := Ground.data }, { on := 13, ground := Ground.data }], guard := none }) rfl (fun K hK => ?_) AllReadyH.nil))
  · skip
    refine step_bs2I (by rfl) _ _ (by rfl) x.n (x.n + 1) (by rfl) (by rfl) ?_
    intro g6 w6 e6 e6b c6 b6
    have q6 : w.heap.size ≤ g6 := Nat.le_trans zz e6
    refine hK.out _ _ (hHeld.later b6) (fun hHeld => ?_)
    clear hK K
    replace Bd := Bd.later b6
    replace bq := bnext bq b6 (Nat.le_refl _)
    replace zz := Nat.le_trans zz b6.size
    try (replace c14 := c14.later b6)
    try simp only [Act.put, List.setIfInBounds_toArray, List.set_cons_zero, List.set_cons_succ]
    refine wpAnyH_ready (rs := [7, 14]) (by kernel_rfl) (by simp) ?_
    refine (AllReadyH.cons (o := { dst := some 82, op := Op.call { callee := Callee.value (Operand.func 25), args := #[Operand.tmp 75, Operand.tmp 81], argTypes := #[23, 28] }, type := 35, pos := _, after := #[{ on := 0, ground := Ground.data }, { on := 6, ground := Ground.data }], guard := none }) rfl (fun K hK => ?_) (AllReadyH.cons (o := { dst := some 89, op := Op.buildSlice 28 2 #[(0, Operand.tmp 85), (1, Operand.tmp 88)], type := 28, pos := _, after := #[{ on := 10, ground := Ground.data }, { on := 13, ground := Ground.data }], guard := none }) rfl (fun K hK => ?_) AllReadyH.nil))
    · skip
      go_simp
      refine (write_any Bd.gh (cs2_ins c6 hwn hwn1) (inE_at q6) (fun y hy => hfr y hy) (by simp) hnl).mono ?_
      rintro e w7 ⟨rfl, G7, s7⟩
      have R7 := Bd.rh.step s7 (fun e => (B.hF h e).2.1 rfl) (fun y hy e => (B.hF y e).2.2 hy)
      have b78 := Below.refl w7.heap.size w7
      try go_wp2_with fail
      refine hK.out _ _ (hHeld.step s7 hnF) (fun hHeld => ?_)
      clear hK K
      replace zz := Nat.le_trans zz s7.size
      try (replace c14 := c14.step s7 (hfr _ q14))
      try simp only [Act.put, List.setIfInBounds_toArray, List.set_cons_zero, List.set_cons_succ]
      refine wpAnyH_ready (rs := [14]) (by kernel_rfl) (by simp) ?_
      refine (AllReadyH.cons (o := { dst := some 89, op := Op.buildSlice 28 2 #[(0, Operand.tmp 85), (1, Operand.tmp 88)], type := 28, pos := _, after := #[{ on := 10, ground := Ground.data }, { on := 13, ground := Ground.data }], guard := none }) rfl (fun K hK => ?_) AllReadyH.nil)
      refine step_bs2I (by rfl) _ _ (by rfl) x.n (x.n + 1) (by rfl) (by rfl) ?_
      intro g14 w14 e14 e14b c14 b14
      have q14 : w.heap.size ≤ g14 := Nat.le_trans zz e14
      refine hK.out _ _ (hHeld.later b14) (fun hHeld => ?_)
      clear hK K
      try (replace Bd := Bd.later b14; replace bq := bnext bq b14 (Nat.le_refl _))
      try (replace R7 := R7.later b14; replace b78 := bnext b78 b14 (Nat.le_refl _))
      replace zz := Nat.le_trans zz b14.size
      try (replace c6 := c6.later b14)
      try simp only [Act.put, List.setIfInBounds_toArray, List.set_cons_zero, List.set_cons_succ]
      refine wpAnyH_ready (rs := [15]) (by kernel_rfl) (by simp) ?_
      refine (AllReadyH.cons (o := { dst := some 90, op := Op.call { callee := Callee.value (Operand.func 27), args := #[Operand.tmp 83, Operand.tmp 89], argTypes := #[25, 28] }, type := 35, pos := _, after := #[{ on := 8, ground := Ground.data }, { on := 14, ground := Ground.data }, { on := 7, ground := Ground.chain }], guard := none }) rfl (fun K hK => ?_) AllReadyH.nil)
      go_simp
      refine (rwrite_any R7 (cs2_ins c14 hwn hwn1) ((inE_at q14).mono (fun y hy => hfh y hy)) (by simp)).mono ?_
      rintro e w9 ⟨rfl, R9, s9⟩
      try go_wp2_with fail
      refine hK.out _ _ (hHeld.step s9 hneh) (fun hHeld => ?_)
      clear hK K
      try simp only [Act.put, List.setIfInBounds_toArray, List.set_cons_zero, List.set_cons_succ]
      refine wpAnyH_take (i := 16) (oi := { dst := some 91, op := Op.binOp BinOp.eql 35 (Operand.tmp 82) (Operand.tmp 90) 35, type := 4, pos := _, after := #[{ on := 7, ground := Ground.data }, { on := 15, ground := Ground.data }], guard := none }) (v := .bool true) rfl (by kernel_rfl) (by kernel_rfl) (by kernel_rfl) (fun _ _ _ h => h) (Or.inl ⟨by rfl, ?_⟩) hHeld ?_
      · intro u hu
        go_simp
      try simp only [Act.put, List.setIfInBounds_toArray, List.set_cons_zero, List.set_cons_succ]
      refine wpAnyH_take (i := 17) (oi := { dst := some 6, op := Op.assign (Operand.tmp 91), type := 4, pos := _, after := #[{ on := 16, ground := Ground.data }, { on := 15, ground := Ground.chain }, { on := 0, ground := Ground.phase }, { on := 1, ground := Ground.phase }, { on := 2, ground := Ground.phase }, { on := 3, ground := Ground.phase }, { on := 4, ground := Ground.phase }, { on := 5, ground := Ground.phase }, { on := 6, ground := Ground.phase }, { on := 7, ground := Ground.phase }, { on := 8, ground := Ground.phase }, { on := 9, ground := Ground.phase }, { on := 10, ground := Ground.phase }, { on := 11, ground := Ground.phase }, { on := 12, ground := Ground.phase }, { on := 13, ground := Ground.phase }, { on := 14, ground := Ground.phase }, { on := 15, ground := Ground.phase }, { on := 16, ground := Ground.phase }], guard := none }) (v := .bool true) rfl (by kernel_rfl) (by kernel_rfl) (by kernel_rfl) (fun _ _ _ h => h) (Or.inl ⟨by rfl, ?_⟩) hHeld ?_
      · intro u hu
        go_simp
      try simp only [Act.put, List.setIfInBounds_toArray, List.set_cons_zero, List.set_cons_succ]
      refine wpAnyH_done (by kernel_rfl) ?_ _
      have hf := tail Bd bq G7 s7 b78 R9 s9
      clear hHeld
      go_wp2_with fail
      go_returns
      exact ⟨by simp, hf⟩
    · skip
      refine step_bs2I (by rfl) _ _ (by rfl) x.n (x.n + 1) (by rfl) (by rfl) ?_
      intro g14 w14 e14 e14b c14 b14
      have q14 : w.heap.size ≤ g14 := Nat.le_trans zz e14
      refine hK.out _ _ (hHeld.later b14) (fun hHeld => ?_)
      clear hK K
      try (replace Bd := Bd.later b14; replace bq := bnext bq b14 (Nat.le_refl _))
      try (replace R7 := R7.later b14; replace b78 := bnext b78 b14 (Nat.le_refl _))
      replace zz := Nat.le_trans zz b14.size
      try (replace c6 := c6.later b14)
      try simp only [Act.put, List.setIfInBounds_toArray, List.set_cons_zero, List.set_cons_succ]
      refine wpAnyH_ready (rs := [7]) (by kernel_rfl) (by simp) ?_
      refine (AllReadyH.cons (o := { dst := some 82, op := Op.call { callee := Callee.value (Operand.func 25), args := #[Operand.tmp 75, Operand.tmp 81], argTypes := #[23, 28] }, type := 35, pos := _, after := #[{ on := 0, ground := Ground.data }, { on := 6, ground := Ground.data }], guard := none }) rfl (fun K hK => ?_) AllReadyH.nil)
      go_simp
      refine (write_any Bd.gh (cs2_ins c6 hwn hwn1) (inE_at q6) (fun y hy => hfr y hy) (by simp) hnl).mono ?_
      rintro e w7 ⟨rfl, G7, s7⟩
      have R7 := Bd.rh.step s7 (fun e => (B.hF h e).2.1 rfl) (fun y hy e => (B.hF y e).2.2 hy)
      have b78 := Below.refl w7.heap.size w7
      try go_wp2_with fail
      refine hK.out _ _ (hHeld.step s7 hnF) (fun hHeld => ?_)
      clear hK K
      replace zz := Nat.le_trans zz s7.size
      try (replace c14 := c14.step s7 (hfr _ q14))
      try simp only [Act.put, List.setIfInBounds_toArray, List.set_cons_zero, List.set_cons_succ]
      refine wpAnyH_ready (rs := [15]) (by kernel_rfl) (by simp) ?_
      refine (AllReadyH.cons (o := { dst := some 90, op := Op.call { callee := Callee.value (Operand.func 27), args := #[Operand.tmp 83, Operand.tmp 89], argTypes := #[25, 28] }, type := 35, pos := _, after := #[{ on := 8, ground := Ground.data }, { on := 14, ground := Ground.data }, { on := 7, ground := Ground.chain }], guard := none }) rfl (fun K hK => ?_) AllReadyH.nil)
      go_simp
      refine (rwrite_any R7 (cs2_ins c14 hwn hwn1) ((inE_at q14).mono (fun y hy => hfh y hy)) (by simp)).mono ?_
      rintro e w9 ⟨rfl, R9, s9⟩
      try go_wp2_with fail
      refine hK.out _ _ (hHeld.step s9 hneh) (fun hHeld => ?_)
      clear hK K
      try simp only [Act.put, List.setIfInBounds_toArray, List.set_cons_zero, List.set_cons_succ]
      refine wpAnyH_take (i := 16) (oi := { dst := some 91, op := Op.binOp BinOp.eql 35 (Operand.tmp 82) (Operand.tmp 90) 35, type := 4, pos := _, after := #[{ on := 7, ground := Ground.data }, { on := 15, ground := Ground.data }], guard := none }) (v := .bool true) rfl (by kernel_rfl) (by kernel_rfl) (by kernel_rfl) (fun _ _ _ h => h) (Or.inl ⟨by rfl, ?_⟩) hHeld ?_
      · intro u hu
        go_simp
      try simp only [Act.put, List.setIfInBounds_toArray, List.set_cons_zero, List.set_cons_succ]
      refine wpAnyH_take (i := 17) (oi := { dst := some 6, op := Op.assign (Operand.tmp 91), type := 4, pos := _, after := #[{ on := 16, ground := Ground.data }, { on := 15, ground := Ground.chain }, { on := 0, ground := Ground.phase }, { on := 1, ground := Ground.phase }, { on := 2, ground := Ground.phase }, { on := 3, ground := Ground.phase }, { on := 4, ground := Ground.phase }, { on := 5, ground := Ground.phase }, { on := 6, ground := Ground.phase }, { on := 7, ground := Ground.phase }, { on := 8, ground := Ground.phase }, { on := 9, ground := Ground.phase }, { on := 10, ground := Ground.phase }, { on := 11, ground := Ground.phase }, { on := 12, ground := Ground.phase }, { on := 13, ground := Ground.phase }, { on := 14, ground := Ground.phase }, { on := 15, ground := Ground.phase }, { on := 16, ground := Ground.phase }], guard := none }) (v := .bool true) rfl (by kernel_rfl) (by kernel_rfl) (by kernel_rfl) (fun _ _ _ h => h) (Or.inl ⟨by rfl, ?_⟩) hHeld ?_
      · intro u hu
        go_simp
      try simp only [Act.put, List.setIfInBounds_toArray, List.set_cons_zero, List.set_cons_succ]
      refine wpAnyH_done (by kernel_rfl) ?_ _
      have hf := tail Bd bq G7 s7 b78 R9 s9
      clear hHeld
      go_wp2_with fail
      go_returns
      exact ⟨by simp, hf⟩
  · skip
    refine step_bs2I (by rfl) _ _ (by rfl) x.n (x.n + 1) (by rfl) (by rfl) ?_
    intro g14 w14 e14 e14b c14 b14
    have q14 : w.heap.size ≤ g14 := Nat.le_trans zz e14
    refine hK.out _ _ (hHeld.later b14) (fun hHeld => ?_)
    clear hK K
    try (replace Bd := Bd.later b14; replace bq := bnext bq b14 (Nat.le_refl _))
    try (replace R7 := R7.later b14; replace b78 := bnext b78 b14 (Nat.le_refl _))
    replace zz := Nat.le_trans zz b14.size
    try (replace c6 := c6.later b14)
    try simp only [Act.put, List.setIfInBounds_toArray, List.set_cons_zero, List.set_cons_succ]
    refine wpAnyH_ready (rs := [6]) (by kernel_rfl) (by simp) ?_
    refine (AllReadyH.cons (o := { dst := some 81, op := Op.buildSlice 28 2 #[(0, Operand.tmp 77), (1, Operand.tmp 80)], type := 28, pos := _, after := #[{ on := 2, ground := Ground.data }, { on := 5, ground := Ground.data }], guard := none }) rfl (fun K hK => ?_) AllReadyH.nil)
    refine step_bs2I (by rfl) _ _ (by rfl) x.n (x.n + 1) (by rfl) (by rfl) ?_
    intro g6 w6 e6 e6b c6 b6
    have q6 : w.heap.size ≤ g6 := Nat.le_trans zz e6
    refine hK.out _ _ (hHeld.later b6) (fun hHeld => ?_)
    clear hK K
    replace Bd := Bd.later b6
    replace bq := bnext bq b6 (Nat.le_refl _)
    replace zz := Nat.le_trans zz b6.size
    try (replace c14 := c14.later b6)
    try simp only [Act.put, List.setIfInBounds_toArray, List.set_cons_zero, List.set_cons_succ]
    refine wpAnyH_ready (rs := [7]) (by kernel_rfl) (by simp) ?_
    refine (AllReadyH.cons (o := { dst := some 82, op := Op.call { callee := Callee.value (Operand.func 25), args := #[Operand.tmp 75, Operand.tmp 81], argTypes := #[23, 28] }, type := 35, pos := _, after := #[{ on := 0, ground := Ground.data }, { on := 6, ground := Ground.data }], guard := none }) rfl (fun K hK => ?_) AllReadyH.nil)
    go_simp
    refine (write_any Bd.gh (cs2_ins c6 hwn hwn1) (inE_at q6) (fun y hy => hfr y hy) (by simp) hnl).mono ?_
    rintro e w7 ⟨rfl, G7, s7⟩
    have R7 := Bd.rh.step s7 (fun e => (B.hF h e).2.1 rfl) (fun y hy e => (B.hF y e).2.2 hy)
    have b78 := Below.refl w7.heap.size w7
    try go_wp2_with fail
    refine hK.out _ _ (hHeld.step s7 hnF) (fun hHeld => ?_)
    clear hK K
    replace zz := Nat.le_trans zz s7.size
    try (replace c14 := c14.step s7 (hfr _ q14))
    try simp only [Act.put, List.setIfInBounds_toArray, List.set_cons_zero, List.set_cons_succ]
    refine wpAnyH_ready (rs := [15]) (by kernel_rfl) (by simp) ?_
    refine (AllReadyH.cons (o := { dst := some 90, op := Op.call { callee := Callee.value (Operand.func 27), args := #[Operand.tmp 83, Operand.tmp 89], argTypes := #[25, 28] }, type := 35, pos := _, after := #[{ on := 8, ground := Ground.data }, { on := 14, ground := Ground.data }, { on := 7, ground := Ground.chain }], guard := none }) rfl (fun K hK => ?_) AllReadyH.nil)
    go_simp
    refine (rwrite_any R7 (cs2_ins c14 hwn hwn1) ((inE_at q14).mono (fun y hy => hfh y hy)) (by simp)).mono ?_
    rintro e w9 ⟨rfl, R9, s9⟩
    try go_wp2_with fail
    refine hK.out _ _ (hHeld.step s9 hneh) (fun hHeld => ?_)
    clear hK K
    try simp only [Act.put, List.setIfInBounds_toArray, List.set_cons_zero, List.set_cons_succ]
    refine wpAnyH_take (i := 16) (oi := { dst := some 91, op := Op.binOp BinOp.eql 35 (Operand.tmp 82) (Operand.tmp 90) 35, type := 4, pos := _, after := #[{ on := 7, ground := Ground.data }, { on := 15, ground := Ground.data }], guard := none }) (v := .bool true) rfl (by kernel_rfl) (by kernel_rfl) (by kernel_rfl) (fun _ _ _ h => h) (Or.inl ⟨by rfl, ?_⟩) hHeld ?_
    · intro u hu
      go_simp
    try simp only [Act.put, List.setIfInBounds_toArray, List.set_cons_zero, List.set_cons_succ]
    refine wpAnyH_take (i := 17) (oi := { dst := some 6, op := Op.assign (Operand.tmp 91), type := 4, pos := _, after := #[{ on := 16, ground := Ground.data }, { on := 15, ground := Ground.chain }, { on := 0, ground := Ground.phase }, { on := 1, ground := Ground.phase }, { on := 2, ground := Ground.phase }, { on := 3, ground := Ground.phase }, { on := 4, ground := Ground.phase }, { on := 5, ground := Ground.phase }, { on := 6, ground := Ground.phase }, { on := 7, ground := Ground.phase }, { on := 8, ground := Ground.phase }, { on := 9, ground := Ground.phase }, { on := 10, ground := Ground.phase }, { on := 11, ground := Ground.phase }, { on := 12, ground := Ground.phase }, { on := 13, ground := Ground.phase }, { on := 14, ground := Ground.phase }, { on := 15, ground := Ground.phase }, { on := 16, ground := Ground.phase }], guard := none }) (v := .bool true) rfl (by kernel_rfl) (by kernel_rfl) (by kernel_rfl) (fun _ _ _ h => h) (Or.inl ⟨by rfl, ?_⟩) hHeld ?_
    · intro u hu
      go_simp
    try simp only [Act.put, List.setIfInBounds_toArray, List.set_cons_zero, List.set_cons_succ]
    refine wpAnyH_done (by kernel_rfl) ?_ _
    have hf := tail Bd bq G7 s7 b78 R9 s9
    clear hHeld
    go_wp2_with fail
    go_returns
    exact ⟨by simp, hf⟩
theorem do_any {g h k : Nat} {W0 w : World} {Z : GZ} {E F R : Nat → Prop} (B : Bx W0.heap.size w g h Z k E F R) (x : Ac) (hx : x.ok W0) (b0 : Below W0.heap.size W0 w) (hk : k ≤ 60) (hc : among x.d 14 ≠ 13) (hn : x.n ≤ 1152921504606846976) :
    Calls Tryz.prog 10 #[.pointer (some ⟨g, 0, none⟩), .pointer (some ⟨h, 0, none⟩), .agg x.cs.toArray] w (Dn W0.heap.size g h k F w) := by
  have h14 := among_lt x.d 14 (by omega)
  by_cases h1 : among x.d 14 < 7
  · exact do_add B x hx b0 hk h1
  by_cases h2 : among x.d 14 < 10
  · exact do_ready B x hx b0 hk ⟨by omega, h2⟩
  by_cases h3 : among x.d 14 = 10
  · exact do_write B x hx b0 hk h3 hn
  by_cases h4 : among x.d 14 = 11
  · exact do_settle B x hx b0 hk h4
  · exact do_all B x hx b0 hk (by omega)
end Go.Proofs.YtigchhogclofiaaGreat
