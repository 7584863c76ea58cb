/-
  The statement GraphGoes, proved: for every list of acts the law returns true, and what came in reads as it did; no condition.
-/
import Derived.Test.YtigchhogclofiaaGsE
import Derived.Test.YtigchhogclofiaaGrW
namespace Go.Proofs.Ytigchhogclofiaa.graphGoes
open Go.ChangeShapes Go.WideShapes Go.ChangeAt Go.RowKit
set_option linter.unusedVariables false
set_option linter.unusedSimpArgs false

theorem uAct : ∃ d, Try.prog.underlying 32 = some d ∧ d.isRow = true := ⟨_, Try.underlying32, rfl⟩
theorem szAct : (Try.prog.info? 32).map (·.size) = some 12 := by kernel_rfl
theorem at_getRg {ops : Array Oper} {rest : List Oper} {o : Oper} {a : Act} {w : World} {Q : Exit → Act → World → Prop} (T m : Nat) (hT : ∃ d, Try.prog.underlying T = some d ∧ d.isRow = true) (hs : (Try.prog.info? T).map (·.size) = some m) (hw : Region.wanted o (yielded ops a.tmps) = true) (x : Operand) (ho : o.op = .load T x) (g i : Nat) (hx : a.eval x = .pointer (some ⟨g, i, none⟩)) (part : List Value) (hr : w.rangeAt g i part) (hl : part.length = m)
    (h : wpList Try.prog ops Q rest (a.put o.dst (.agg part.toArray)) w) : wpList Try.prog ops Q (o :: rest) a w := by
  refine op_val hw _ _ ?_ h
  obtain ⟨d, h1, h2⟩ := hT
  have : (loadVar T ⟨g, i, none⟩).run Try.prog w = .ok (.agg part.toArray) w := run_loadVar_mid w g i _ part _ hr h1 h2 (by rw [hs]; simp [hl])
  simp [execOp, ho, hx, Instr.loadAt, Instr.sureAddr, this]
theorem ptc_wfp {x : Ac} (h : x.p.wfp) (last : Nat) : (ptc x last).wfp := by
  unfold ptc; split <;> exact ⟨h.i, h.s, h.o, h.k, h.w, h.c⟩
theorem ptc_data (x : Ac) (last : Nat) : (ptc x last).data.length ≤ 70 := by
  unfold ptc; split <;> (unfold fewP; simp; omega)
theorem ptc_needs (x : Ac) (last : Nat) : (ptc x last).needs.length ≤ 6 := by
  unfold ptc; split <;> (unfold fewP; simp; omega)
theorem sectors_1 {N g : Nat} {w : World} {Z : GZ} (h : G1 N w g Z) :
    Calls Try.prog 11 #[.pointer (some ⟨g, 0, none⟩)] w fun e w' => ∃ v : Sv, e = .returned (.slice v.a v.n v.c) ∧ InsS w' v (secs Z.l) ∧ InE (fun x => w.heap.size ≤ x ∧ x < w'.heap.size) v ∧ Below w.heap.size w w' := by
  obtain ⟨⟨E, F, ⟨mp, mw, f, fw, H⟩, h2, h3⟩, h4⟩ := h
  refine (sectors_any H).mono ?_
  rintro e w' ⟨v, rfl, k1, k2, k3⟩
  obtain ⟨sv, e1, _, e3, e4⟩ := k1.ins (fun x hx => by
    have h1 := secs_mem.1 hx
    obtain ⟨y, hy⟩ := List.exists_mem_of_ne_nil _ h1
    obtain ⟨p, q1, q2, q3, _⟩ := wts_mem.1 hy
    have := fit_to (H.ok.ft p q1)
    exact wfi_of (by omega)) k2
  subst e1
  exact ⟨sv, rfl, e3, e4, k3⟩
/-- What stands behind k acts. -/
structure AdI (w wr : World) (g : Nat) (Z : GZ) (k : Nat) : Prop where
  g1 : G1 w.heap.size wr g Z
  un : ∀ p ∈ Z.l, p.wr = false
  few : Z.l.length ≤ k
  la : Z.last ≤ (k : Int)
  b : Below w.heap.size w wr
theorem AdI.skip {w wr : World} {g : Nat} {Z : GZ} {k : Nat} (h : AdI w wr g Z k) : AdI w wr g Z (k + 1) := ⟨h.g1, h.un, by have := h.few; omega, by have := h.la; omega, h.b⟩
theorem AdI.later {w wr w' : World} {g : Nat} {Z : GZ} {k : Nat} (h : AdI w wr g Z k) (b : Below wr.heap.size wr w') : AdI w w' g Z k := ⟨h.g1.later b, h.un, h.few, h.la, bnext h.b b (Nat.le_refl _)⟩
theorem AdI.add {w wr w' : World} {g : Nat} {Z : GZ} {k : Nat} (h : AdI w wr g Z k) (p : Pt) (b : Below w.heap.size w w') (hg : G1 w.heap.size w' g (Z.add p)) : AdI w w' g (Z.add p) (k + 1) := by
  refine ⟨hg, ?_, ?_, ?_, b⟩
  · unfold GZ.add
    split
    · intro q hq
      rcases List.mem_append.1 hq with hq | hq
      · exact h.un q hq
      · rw [List.mem_singleton.1 hq]
    · exact h.un
  · have := h.few
    unfold GZ.add
    split
    · simp; omega
    · omega
  · have := h.la
    unfold GZ.add
    split
    · simp only; omega
    · omega
theorem add_last {Z : GZ} {m : Nat} (hm : Z.last = (m : Int)) (p : Pt) (h : Z.addE p = 0) : ∃ m' : Nat, (Z.add p).last = (m' : Int) ∧ Z.addN p = (m' : Int) := by
  unfold GZ.addE at h
  split at h
  · rename_i e
    refine ⟨m + 1, ?_, ?_⟩
    · unfold GZ.add; rw [if_pos e]; simp only; omega
    · unfold GZ.addN; rw [if_pos e]; omega
  · omega
theorem add_same {Z : GZ} {p : Pt} (h : ¬ Z.addE p = 0) : Z.add p = Z := by
  unfold GZ.addE at h
  split at h
  · exact absurd rfl h
  · rename_i e; unfold GZ.add; rw [if_neg e]
/-- What stands behind i rounds. -/
structure SeI (w wr : World) (g : Nat) (Z : GZ) (i : Nat) : Prop where
  g1 : G1 w.heap.size wr g Z
  un : ∀ p ∈ Z.l, p.wr = false
  few : i + Z.l.length ≤ 50
  b : Below w.heap.size w wr
/-- What stands within a round. -/
structure RnI (w wr : World) (g : Nat) (Z Z' : GZ) (s : Sv) (k : Nat) (E F : Nat → Prop) : Prop where
  r : RoI Z Z' (secs Z.l) k
  h : Gh wr g Z' E F
  q : InsS wr s (secs Z.l)
  nl : ∀ p ∈ Z'.l, p.needs.length ≤ 100000
  b : Below w.heap.size w wr
theorem RnI.ok {w wr : World} {g : Nat} {Z Z' : GZ} {s : Sv} {k : Nat} {E F : Nat → Prop} (h : RnI w wr g Z Z' s k E F) : Z'.ok 2000 := by
  obtain ⟨_, _, _, _, H⟩ := h.h; exact H.ok
theorem RnI.lt {w wr : World} {g : Nat} {Z Z' : GZ} {s : Sv} {k : Nat} {E F : Nat → Prop} (h : RnI w wr g Z Z' s k E F) : ∀ x, F x → x < wr.heap.size := by
  obtain ⟨_, _, _, _, H⟩ := h.h; exact H.lt
set_option maxRecDepth 100000 in
set_option maxHeartbeats 8000000 in
theorem walk (a : Option Addr) (n c : Nat) (l : List Ac) (w : World) (hA : Acs w a n c l) :
    Calls Try.prog 3 #[.slice a n c] w fun e w' => e = .returned (.bool true) ∧ Below w.heap.size w w' := by
  have hn := hA.len
  subst hn
  have hcap : l.length ≤ maxLen := Nat.le_trans hA.le hA.cap
  have t1 : True := trivial
  have t2 : True := trivial
  go_enter Try.func3, Try.ntmps3
  go_wp2_with (first
    | (go_at_call 5; refine (works_any _).mono ?_; rintro e w1 ⟨rfl, b1⟩)
    | (go_at_call 6; refine (new_1 _).mono ?_; rintro e w2 ⟨g, rfl, G2, b2⟩))
  have B2 := bnext b1 b2 (Nat.le_refl _)
  have G2' : G1 w.heap.size w2 g GZ.new := by
    obtain ⟨⟨E, F, h1, h2, h3⟩, h4⟩ := G2
    exact ⟨⟨E, F, h1, fun x hx => Nat.le_trans b1.size (h2 x hx), fun x hx => Nat.le_trans b1.size (h3 x hx)⟩, h4⟩
  have i0 : AdI w w2 g GZ.new 0 := ⟨G2', (fun p hp => by cases hp), Nat.le_refl _, Int.le_refl _, B2⟩
  clear G2 G2' b1 b2 B2
  go_loopw [4, 5] (fun u v wr => ∃ (k m : Nat) (Z : GZ), k ≤ l.length ∧ k ≤ 50 ∧ Z.last = (m : Int) ∧ u = .int .i64 (m : Int) ∧ v = .int .i64 (k : Int) ∧ AdI w wr g Z k) (fun _ v _ => 50 - (intOf v).toNat)
  case atStart => exact ⟨0, 0, GZ.new, Nat.zero_le _, Nat.zero_le _, rfl, rfl, rfl, i0⟩
  case round =>
    clear i0
    obtain ⟨k, m, Z, hkl, hk50, hm, rfl, rfl, I⟩ := hrel
    by_cases hlt : k < l.length ∧ k < 50
    · obtain ⟨h1, h2⟩ := hlt
      have a1 : (k : Int) < (l.length : Int) := by omega
      have a2 : (k : Int) < 50 := by omega
      have a3 : (0 : Int) ≤ (k : Int) := by omega
      obtain ⟨b, o, ea, hcell⟩ := hA.cell (by omega)
      subst ea
      obtain ⟨x, hx0, hx1, hx2⟩ := hcell k h1
      have hx1r := (Stp.of_below I.b (fun _ => False)).range hx1 id
      have hx2r := hx2.later I.b
      have cd : wr.cell? ⟨b, o + k * 12, none⟩ = some (.int .i64 x.d) := by have := hx1r 0 _ (show x.cs[0]? = some (.int .i64 x.d) from rfl); simpa using this
      have hm50 : m ≤ 100000 := by have := I.la; omega
      have hA14 := fun (u : World) => among_any x.d 14 u (by omega) (by omega)
      have ha14 := among_lt x.d 14 (by omega)
      clear hcell hx0 hx1 hx2 hA
      by_cases h7 : among x.d 14 < 7
      · have h7i : ((among x.d 14 : Nat) : Int) < 7 := by omega
        generalize among x.d 14 = y at *
        go_wp2_with (first
          | (go_at_call 7; refine (hA14 _).mono ?_; rintro e w3 ⟨rfl, rfl⟩)
          | (clear t1; refine at_getRg 32 12 uAct szAct (by rfl) _ (by rfl) b (o + k * 12) (by rfl) x.cs hx1r rfl ?_)
          | (go_at_call 9; refine (patch_any x hx2r m hm50).mono ?_; rintro e w4 ⟨d', n', rfl, m4, b4⟩)
          | (go_at_call 8; refine (add_1 I.g1 b4 (ptc x m) d' n' (ptc_wfp hx2r.p m) (m4.mono (fun y hy => hy.1)) (by have := I.la; omega) (by have := ptc_data x m; omega) (by have := ptc_needs x m; omega) (by have := I.b.size; have := b4.size; omega)).mono ?_; rintro e w5 ⟨rfl, G5, b5⟩))
        · rename_i hE
          obtain ⟨m', f1, f2⟩ := add_last hm (ptc x m) (by simpa using hE)
          refine ⟨⟨k + 1, m', Z.add (ptc x m), by omega, by omega, f1, by rw [f2], by go_num, I.add _ ((bnext I.b b4 (Nat.le_refl _)).trans b5) G5⟩, by simp [intOf]; omega⟩
        · rename_i hE
          have f3 := add_same (Z := Z) (p := ptc x m) (by simpa using hE)
          refine ⟨⟨k + 1, m, Z.add (ptc x m), by omega, by omega, by rw [f3]; exact hm, rfl, by go_num, I.add _ ((bnext I.b b4 (Nat.le_refl _)).trans b5) G5⟩, by simp [intOf]; omega⟩
      · have h7i : ¬ ((among x.d 14 : Nat) : Int) < 7 := by omega
        generalize among x.d 14 = y at *
        go_wp2_with (first
          | (go_at_call 7; refine (hA14 _).mono ?_; rintro e w3 ⟨rfl, rfl⟩))
        exact ⟨⟨k + 1, m, Z, by omega, by omega, hm, rfl, by go_num, I.skip⟩, by simp [intOf]; omega⟩
    · have i1 : SeI w wr g Z 0 := ⟨I.g1, I.un, by have := I.few; omega, I.b⟩
      have e1 : ¬ ((k : Int) < (l.length : Int) ∧ (k : Int) < 50) := fun h => hlt ⟨by omega, by omega⟩
      have hx : (k : Int) < (l.length : Int) → ¬ (k : Int) < 50 := fun h1 h2 => e1 ⟨h1, h2⟩
      clear I hA hlt e1
      by_cases hx1 : (k : Int) < (l.length : Int)
      all_goals (
        try have hx2 := hx hx1
        clear hx
        go_wp2_with fail
        clear hx1 hkl hk50 hm
        go_loopw [8] (fun v wr => ∃ (i : Nat) (Z : GZ), v = .int .i64 (i : Int) ∧ SeI w wr g Z i) (fun v _ => 60 - (intOf v).toNat)
        case atStart => exact ⟨0, Z, rfl, i1⟩
        case round =>
          clear i1
          obtain ⟨i, Z, rfl, I⟩ := hrel
          have b1 : (i : Int) < 60 := by have := I.few; omega
          have hun := I.un
          have hfew := I.few
          by_cases hz : Z.l = []
          · go_wp2_with (first
              | (go_at_call 10; refine (all_1 G3).mono ?_; rintro e w4 ⟨v2, rfl, q1, q2, q3⟩
                 have hv : v2.n = 0 := by rw [← q1.i.len, hz]; rfl
                 rw [hv]
                 have B4 := bnext B3 q3 (Nat.le_refl _)
                 clear hv q1 q2 q3)
              | (go_at_call 10; refine (all_1 I.g1).mono ?_; rintro e w3 ⟨v, rfl, q1, q2, q3⟩
                 have G3 := I.g1.later q3
                 have B3 := bnext I.b q3 (Nat.le_refl _)
                 have hv : v.n = 0 := by rw [← q1.i.len, hz]; rfl
                 rw [hv]
                 clear I hv q1 q2 q3))
            go_returns
            exact ⟨rfl, B4⟩
          · have hzl : 0 < Z.l.length := List.length_pos_iff.2 hz
            go_wp2_with (first
              | (go_at_call 11; refine (sectors_1 G3).mono ?_; rintro e w4 ⟨s, rfl, q4, q5, q6⟩
                 have G4 := G3.later q6
                 have B4 := bnext B3 q6 (Nat.le_refl _))
              | (go_at_call 10; refine (all_1 I.g1).mono ?_; rintro e w3 ⟨v, rfl, q1, q2, q3⟩
                 have G3 := I.g1.later q3
                 have B3 := bnext I.b q3 (Nat.le_refl _)
                 have hv : v.n = Z.l.length := by rw [← q1.i.len]; unfold ids; simp
                 rw [hv]
                 have hv2 : (0 : Int) < (Z.l.length : Int) := by omega
                 have hv3 : Z.l.length ≤ maxLen := Nat.le_trans (show Z.l.length ≤ 50 by omega) (by decide)
                 clear I hv q1 q2 q3))
            obtain ⟨⟨E, F, H3, hF, hE⟩, hnl⟩ := G3
            clear G4
            have H4 := H3.later q6
            have hap : ∀ x, F x → x < w3.heap.size := fun x hx => by obtain ⟨_, _, _, _, H⟩ := H3; exact H.lt x hx
            have hsl := q4.i.len
            obtain ⟨sa, sn, sc⟩ := s
            simp only at hsl
            subst hsl
            have hcap2 : (secs Z.l).length ≤ maxLen := Nat.le_trans q4.i.le q4.i.cap
            have j0 : RnI w w4 g Z Z ⟨sa, (secs Z.l).length, sc⟩ 0 E F := ⟨RoI.start hun _, H4, q4, hnl, B4⟩
            have hcw0 : cw Z.l = 0 := by unfold cw; rw [List.length_eq_zero_iff, List.filter_eq_nil_iff]; intro p hp; simp [hun p hp]
            have hs2 : ((secs Z.l).length : Int) ≤ 2000 := by obtain ⟨_, _, _, _, H⟩ := H3; exact secs_len H.ok
            clear H3 H4 B4 q6 B3 hv2 hv3
            go_loopw [10, 11] (fun u v wr => ∃ (k : Nat) (Z' : GZ), k ≤ (secs Z.l).length ∧ u = .int .i64 (cw Z'.l : Int) ∧ v = .int .i64 (k : Int) ∧ RnI w wr g Z Z' ⟨sa, (secs Z.l).length, sc⟩ k E F) (fun _ v _ => (secs Z.l).length - (intOf v).toNat)
            case atStart => exact ⟨0, Z, Nat.zero_le _, by rw [hcw0]; rfl, rfl, j0⟩
            case round =>
              clear j0 hcw0
              obtain ⟨k, Z', hk, rfl, rfl, J⟩ := hrel
              have hok := J.ok
              have hl' : Z'.l.length = Z.l.length := core_len J.r.co
              have hcl : cw Z'.l ≤ Z'.l.length := by unfold cw; exact List.length_filter_le _ _
              by_cases hks : k < (secs Z.l).length
              · have g1 : (k : Int) < ((secs Z.l).length : Int) := by omega
                have g2 : (0 : Int) ≤ (k : Int) := by omega
                obtain ⟨sb, so, e1, hcell⟩ := J.q.i.cell (by show 0 < (secs Z.l).length; omega)
                simp only at e1
                subst e1
                have ck := hcell k hks
                have hwf : wfi ((secs Z.l).getD k 0) := by rw [List.getD_eq_getElem?_getD, List.getElem?_eq_getElem hks]; exact J.q.i.wf _ (List.getElem_mem hks)
                obtain ⟨K1, K2⟩ := J.r.next hok hks
                have hw0 := wr_ready Z' hok.srt ((secs Z.l).getD k 0)
                have hcn : cw (Z'.wr (rdy Z'.l ((secs Z.l).getD k 0))).l ≤ Z.l.length := by rw [← core_len K1.co]; unfold cw; exact List.length_filter_le _ _
                generalize (secs Z.l).getD k 0 = sec at *
                clear hcell
                have hwr : IntKind.i64.wrap ((cw Z'.l : Int) + ((rdy Z'.l sec).length : Int)) = (cw (Z'.wr (rdy Z'.l sec)).l : Int) := by rw [K2, IntKind.wrap_i64]; omega
                have hlr : (rdy Z'.l sec).length ≤ 50 := by omega
                have hl50 : Hid (Z.l.length ≤ 50) := (by omega : Z.l.length ≤ 50)
                have hG' : G1 w.heap.size wr g Z' := ⟨⟨E, F, J.h, hF, hE⟩, J.nl⟩
                clear K2 hl' hcl hfew hzl hcn
                have K2 : Hid (Z'.wrE (rdy Z'.l sec) = 0) := hw0
                clear hw0
                go_wp2_with (first
                  | (go_at_call 12; refine (ready_1 hG' sec hwf).mono ?_; rintro e w5 ⟨r, rfl, p1, p2, p3⟩
                     have hrl := p1.i.len
                     obtain ⟨ra, rn, rc⟩ := r
                     simp only at hrl
                     subst hrl
                     have hrc : (rdy Z'.l sec).length ≤ maxLen := Nat.le_trans p1.i.le p1.i.cap)
                  | (go_at_call 13; refine (write_any (J.h.later p3) p1 p2 (fun x hx hf => by have := J.lt x hf; have := hx.1; omega) (by omega) J.nl).mono ?_; rintro e w6 ⟨rfl, p4, p5⟩; rw [K2.out]))
                have B5 : Below w.heap.size w w5 := bnext J.b p3 (Nat.le_refl _)
                refine ⟨⟨k + 1, Z'.wr (rdy Z'.l sec), by omega, rfl, by go_num, K1, p4, (J.q.later p3).step p5 q5 (fun x hx hf => by have := hap x hf; have := hx.1; omega), wr_needs _ J.nl, ((Stp.of_below B5 (fun _ => False)).next p5 (fun x hx => .inr (by have := hF x hx; omega))).below (Nat.le_refl _) (fun x e => e.elim)⟩, by simp [intOf]; omega⟩
              · have hke : k = (secs Z.l).length := by omega
                subst hke
                have hc1 := J.r.done rfl hun hz
                obtain ⟨s1, s2, s3⟩ := stl_cw Z'
                have hc2 : ¬ ((cw Z'.l : Nat) : Int) = 0 := by omega
                have hG' : G1 w.heap.size wr g Z' := ⟨⟨E, F, J.h, hF, hE⟩, J.nl⟩
                have hfin : Hid ((i + 1) + (Z'.stl fun _ => true).l.length ≤ 50) := (by omega : (i + 1) + (Z'.stl fun _ => true).l.length ≤ 50)
                have s1' : Hid (Z'.stlN (fun _ => true) = (cw Z'.l : Int)) := s1
                clear s1 s2 hc1 hl' hcl
                go_wp2_with (first
                  | (go_at_call 14; refine (settleAll_1 hG' J.b.size).mono ?_; rintro e w7 ⟨rfl, G7, b7⟩; rw [s1'.out]))
                exact ⟨⟨i + 1, Z'.stl fun _ => true, by go_num, G7, s3, hfin.out, J.b.trans b7⟩, by simp [intOf]; omega⟩)
theorem own : ownKnob Try.prog.godebug = none := by kernel_rfl
theorem laidOut : laidOutB Try.prog = true := by kernel_rfl
set_option maxRecDepth 100000 in
theorem lifted (os : Os) (started : os.Started) (H : Type) (enc : TypeId × Value → H) :
    ReturnsInHanded {} Try.checked os 3 .any (Rows.graphGoesSpec.pre6 enc Try.prog Try.f3 Rows.graphGoesRow.domain false) (Rows.graphGoesSpec.post enc Try.prog Try.f3 false true false false) := by
  refine returnsInHanded_of_change (C := Try.checked) own started (by kernel_rfl) Try.func3
    (ChangeSpec.witness6 (enc := enc) (C := Try.checked) false ⟨#[], #[.slice none 0 0], []⟩ 8 (by kernel_rfl) (by kernel_rfl) (by kernel_rfl) (by kernel_rfl)) ?_
  intro W base args ds gs before hval0 hW hcnd _
  have hval : ∀ (j : Nat) t v, Try.f3.params[j]? = some t → args[j]? = some v → Value.okWide Try.prog W .any base t v := hval0
  have hW' := hW
  obtain ⟨p, q, hA0, hV, rfl, hfz, hnd⟩ := hW
  have hA : DataW.TrodAll enc Try.prog W 0 (fun _ => true) true Try.f3.params.toList args.toList ds p := hA0
  rw [Try.params3] at hA hval
  obtain ⟨v0, vs0, d0, ds0, p0, q0, hargs, rfl, rfl, h0, r0⟩ := trodAll_cons hA
  obtain ⟨rfl, rfl, rfl⟩ := trodAll_nil r0
  obtain rfl : args = #[v0] := by cases args; simp_all
  obtain ⟨rfl, rfl⟩ := trodVars_none hV
  obtain ⟨a0, len0, cap0, rfl⟩ := okWide_slice Try.underlying22 (hval 0 22 v0 rfl rfl)
  have k0 := h0
  have lt0 : ∀ x ∈ p0, x.block < W.heap.size := by obtain ⟨m, hm⟩ := k0; exact DataW.trod_lt m _ _ _ hm
  obtain ⟨z0, w0⟩ : ∃ zs, Acs W a0 len0 cap0 zs := by
    obtain ⟨fuel, hf⟩ := h0
    obtain ⟨a, n, c, l, hcs, hi⟩ := acs_of_trod hf
    simp [Value.cells] at hcs
    obtain ⟨rfl, rfl, rfl⟩ := hcs
    exact ⟨_, hi⟩
  clear hA0 hval0
  refine (walk a0 len0 cap0 z0 W w0).mono fun e W' ⟨he, bel⟩ => ?_
  subst he
  exact ⟨_, rfl, _, _, _, [], _, [], hW', trodAll_mk1 (shut_bool Try.underlying4 _), (trodAll_cons_mk (Below.trod laidOut (by kernel_rfl) (of_decide_eq_true (by kernel_rfl)) k0 bel lt0) trodAll_mk0), rfl, bel.frame _, fun h => by cases h⟩
theorem over : Rows.graphGoesRow.holds Try.pinned (OpenSpec.ofChange Rows.graphGoesSpec) :=
  OpenClaim.holds_of_wide 3 Try.f3 rfl rfl rfl rfl rfl rfl rfl ⟨rfl, rfl, rfl, rfl, rfl⟩ rfl rfl rfl rfl rfl (by kernel_rfl) Try.func3 (by kernel_rfl)
    (of_decide_eq_true (by kernel_rfl)) (by unfold Func.isWrapper; first | (rw [if_pos (by decide +kernel)]; kernel_rfl) | (rw [if_neg (by decide +kernel)]; exact ⟨rfl, rfl⟩))
    (fun os started H enc _ => lifted os started H enc)
end Go.Proofs.Ytigchhogclofiaa.graphGoes
namespace Go.Proofs.Ytigchhogclofiaa
/-- The statement. -/
theorem graphGoes_holds : Rows.GraphGoesSaid := graphGoes.over
#print axioms graphGoes_holds
end Go.Proofs.Ytigchhogclofiaa
