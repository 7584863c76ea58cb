/-
  Slices that read as patches, whatever they lie in, and what the calls of layer 15 return of them: no statement is proved here.
-/
import Derived.Test.YteceapdkgidenaaRoO
import Derived.Test.YteceapdkgidenaaRoH
import Derived.Test.YteceapdkgidenaaGrB
import Derived.SizedLaws
import Derived.Test.YteceapdkgidenaaMadeA
namespace Go.Proofs.Yteceapdkgidenaa
open Go.ChangeShapes Go.WideShapes Go.ChangeAt Go.RowKit
set_option linter.unusedVariables false
set_option linter.unusedSimpArgs false

/-- Whether x is among l. -/
def hsI (l : List Int) (x : Int) : Bool := l.any fun y => y == x
theorem hsI_iff (l : List Int) (x : Int) : hsI l x = true ↔ x ∈ l := by
  unfold hsI; rw [List.any_eq_true]
  constructor
  · rintro ⟨y, h, e⟩; rw [beq_iff_eq] at e; subst e; exact h
  · intro h; exact ⟨x, h, by simp⟩
theorem hsI_step (l : List Int) (x : Int) (k : Nat) (hk : k < l.length) (h : hsI (l.take k) x = false) : hsI (l.take (k + 1)) x = (l.getD k 0 == x) := by
  unfold hsI at *
  rw [List.take_add_one, List.getElem?_eq_getElem hk, List.any_append, h, List.getD_eq_getElem?_getD, List.getElem?_eq_getElem hk]; simp
theorem hsI_yes (l : List Int) (x : Int) (k : Nat) (hk : k < l.length) (h : l.getD k 0 = x) : hsI l x = true := by
  rw [hsI_iff, ← h, List.getD_eq_getElem?_getD, List.getElem?_eq_getElem hk]; exact List.getElem_mem hk
set_option maxRecDepth 100000 in
set_option maxHeartbeats 1000000 in
theorem rhas_any {w : World} {s : Sv} {l : List Int} (h : InsS w s l) (x : Int) :
    Calls Try.prog 39 #[.slice s.a s.n s.c, .int .i64 x] w fun e w' => e = .returned (.bool (hsI l x)) ∧ w = w' := by
  have hl := h.i.len
  have hcap : s.n ≤ 9223372036854775807 := by have := h.i.le; have := h.i.cap; unfold maxLen at this; omega
  have hcell := h.i.cell
  obtain ⟨sa, sn, sc⟩ := s
  simp only at hl hcell hcap ⊢
  subst hl
  clear h
  obtain ⟨r, hr⟩ : ∃ r : Bool, Hid (hsI l x = r) := ⟨_, rfl⟩
  rw [hr.out]
  go_enter Try.func39, Try.ntmps39
  go_wp2
  go_loopw [5] (fun v wr => wr = w ∧ ∃ k : Nat, k ≤ l.length ∧ v = .int .i64 (k : Int) ∧ hsI (l.take k) x = false) (fun v _ => l.length - (intOf v).toNat)
  case atStart => exact ⟨rfl, 0, Nat.zero_le _, rfl, rfl⟩
  case round =>
    obtain ⟨rfl, k, hk, rfl, hg⟩ := hrel
    by_cases hlt : k < l.length
    · obtain ⟨b, o, rfl, hcs⟩ := hcell (by omega)
      have ck := hcs k hlt
      have a9 : (k : Int) < (l.length : Int) := by omega
      have hyes := hsI_yes l x k hlt
      have hst : Hid (hsI (l.take (k + 1)) x = (l.getD k 0 == x)) := hsI_step l x k hlt hg
      generalize l.getD k 0 = y at *
      clear hcs hcell
      by_cases hy : y = x
      · have hrr : true = r := (hyes hy).symm.trans hr.out
        subst hrr
        subst hy
        clear hyes hst hr hg
        go_wp2
        go_returns
        exact ⟨rfl, rfl⟩
      · have hn : hsI (l.take (k + 1)) x = false := by rw [hst.out]; simp [hy]
        clear hyes hst hr hg
        go_wp2
        go_roundw
        case rel => exact ⟨trivial, k + 1, by omega, by go_num, hn⟩
        case measure => simp [intOf]; omega
    · have a9 : ¬ (k : Int) < (l.length : Int) := by omega
      rw [List.take_of_length_le (by omega)] at hg
      have hrr : false = r := hg.symm.trans hr.out
      subst hrr
      clear hr hg
      go_wp2
      go_returns
      exact ⟨rfl, rfl⟩
set_option maxRecDepth 100000 in
set_option maxHeartbeats 1000000 in
theorem bhas_any {w : World} {s : Sv} {l : List Int} (h : InsS w s l) (x : Int) :
    Calls Try.prog 27 #[.slice s.a s.n s.c, .int .i64 x] w fun e w' => e = .returned (.bool (hsI l x)) ∧ w = w' := by
  have hl := h.i.len
  have hcap : s.n ≤ 9223372036854775807 := by have := h.i.le; have := h.i.cap; unfold maxLen at this; omega
  have hcell := h.i.cell
  obtain ⟨sa, sn, sc⟩ := s
  simp only at hl hcell hcap ⊢
  subst hl
  clear h
  obtain ⟨r, hr⟩ : ∃ r : Bool, Hid (hsI l x = r) := ⟨_, rfl⟩
  rw [hr.out]
  go_enter Try.func27, Try.ntmps27
  go_wp2
  go_loopw [5] (fun v wr => wr = w ∧ ∃ k : Nat, k ≤ l.length ∧ v = .int .i64 (k : Int) ∧ hsI (l.take k) x = false) (fun v _ => l.length - (intOf v).toNat)
  case atStart => exact ⟨rfl, 0, Nat.zero_le _, rfl, rfl⟩
  case round =>
    obtain ⟨rfl, k, hk, rfl, hg⟩ := hrel
    by_cases hlt : k < l.length
    · obtain ⟨b, o, rfl, hcs⟩ := hcell (by omega)
      have ck := hcs k hlt
      have a9 : (k : Int) < (l.length : Int) := by omega
      have hyes := hsI_yes l x k hlt
      have hst : Hid (hsI (l.take (k + 1)) x = (l.getD k 0 == x)) := hsI_step l x k hlt hg
      generalize l.getD k 0 = y at *
      clear hcs hcell
      by_cases hy : y = x
      · have hrr : true = r := (hyes hy).symm.trans hr.out
        subst hrr
        subst hy
        clear hyes hst hr hg
        go_wp2
        go_returns
        exact ⟨rfl, rfl⟩
      · have hn : hsI (l.take (k + 1)) x = false := by rw [hst.out]; simp [hy]
        clear hyes hst hr hg
        go_wp2
        go_roundw
        case rel => exact ⟨trivial, k + 1, by omega, by go_num, hn⟩
        case measure => simp [intOf]; omega
    · have a9 : ¬ (k : Int) < (l.length : Int) := by omega
      rw [List.take_of_length_le (by omega)] at hg
      have hrr : false = r := hg.symm.trans hr.out
      subst hrr
      clear hr hg
      go_wp2
      go_returns
      exact ⟨rfl, rfl⟩
end Go.Proofs.Yteceapdkgidenaa
namespace Go.Proofs.Yteceapdkgidenaa
open Go.ChangeShapes Go.WideShapes Go.ChangeAt Go.RowKit
set_option linter.unusedVariables false
set_option linter.unusedSimpArgs false

theorem uSm : Try.prog.underlying 74 = some (.map 3 75) := by kernel_rfl
theorem zSm (w : World) : (zeroValue 75).run Try.prog w = .ok (.agg #[]) w := by kernel_rfl
/-- Numbers as a set. -/
def stF (S : Int → Bool) : Int → Option Value := fun x => if S x then some (.agg #[]) else none
/-- Block b is a map of just the numbers of S, at most n. -/
def MpS (w : World) (b : Nat) (S : Int → Bool) (n : Nat) : Prop := ∃ D, w.ownsMap Try.prog 3 heldElem b n D ∧ Reads D (stF S)
section
variable {w w' : World} {b n : Nat} {S : Int → Bool} {F : Nat → Prop}
theorem MpS.lt (h : MpS w b S n) : b < w.heap.size := by obtain ⟨D, h, _⟩ := h; exact h.lt
theorem MpS.step (h : MpS w b S n) (k : Stp F w w') (hb : ¬ F b) : MpS w' b S n := by
  have hl := h.lt
  obtain ⟨D, ⟨es, clock, hh, rest⟩, hR⟩ := h
  exact ⟨D, ⟨es, clock, (k.block b hl hb).trans hh, rest⟩, hR⟩
theorem MpS.later (h : MpS w b S n) (k : Below w.heap.size w w') : MpS w' b S n := h.step (Stp.of_below k (fun _ => False)) id
theorem MpS.mp (h : MpS w b S n) (hn : n ≤ 4096) : MpI Try.prog 3 w b (stF S) := by obtain ⟨D, h1, h2⟩ := h; exact ⟨D, h1.mono hn, h2⟩
theorem MpS.made (w : World) : MpS (w.alloc (.map #[] 0)) w.heap.size (fun _ => false) 0 := ⟨_, World.ownsMap_made w Try.prog 3 heldElem, reads_empty⟩
theorem MpS.notCell (h : MpS w b S n) {p : Addr} {v : Value} (hv : w.cell? p = some v) : p.block ≠ b := fun e => by
  obtain ⟨D, ⟨es, clock, hh, _⟩, _⟩ := h
  unfold World.cell? at hv; rw [e, hh] at hv; simp at hv
theorem stF_put (S : Int → Bool) (k : Int) : upd (stF S) k (some (.agg #[])) = stF (fun x => S x || decide (x = k)) := by
  funext x; unfold upd stF
  by_cases e : x = k
  · simp [e]
  · simp [e]
theorem MpS.storeM (h : MpS w b S n) (hn : n < maxLen) {k : Int} (hw : wfi k) : ∃ w', (Instr.mapUpdate 74 (.map (some b)) (.int .i64 k) (.agg #[])).run Try.prog w = .ok () w' ∧ MpS w' b (fun x => S x || decide (x = k)) (n + 1) ∧ Stp (fun x => x = b) w w' := by
  obtain ⟨D, h1, hR⟩ := h
  obtain ⟨w', r1, r2, r3⟩ := h1.store (Maps.int_keyed u3) uSm hn (wfI hw u3) (val := .agg #[]) (d := .held (.agg #[])) (ps := []) rfl
  refine ⟨w', r1, ⟨_, r2, ?_⟩, turned_stp r3⟩
  rw [← stF_put]; exact hR.put h1.isMap k _
theorem MpS.look (h : MpS w b S n) {k : Int} (hw : wfi k) : (Instr.lookup 74 (.map (some b)) (.int .i64 k) true).run Try.prog w = .ok (.tuple #[.agg #[], .bool (S k)]) w := by
  obtain ⟨D, h1, hR⟩ := h
  obtain ⟨v, ps, hr, h2⟩ := h1.look_ok (Maps.int_keyed u3) uSm (zSm w) (zd := .held (.agg #[])) (zp := []) rfl (wfI hw u3)
  rw [hr, hR.has k]
  have e : DataW.held v = D.atKey (keyI k) (.held (.agg #[])) := by injection h2 with h2; injection h2
  have es : (stF S k).isSome = S k := by unfold stF; cases S k <;> rfl
  rw [es]
  cases ef : stF S k with
  | none => rw [Maps.atKey_of_not_has (hR.none ef)] at e; injection e with e; rw [e]
  | some u =>
    have hu : u = .agg #[] := by unfold stF at ef; split at ef <;> simp_all
    rw [hR.some ef, hu] at e; injection e with e; rw [e]
end
section
variable {ops : Array Oper} {rest : List Oper} {o : Oper} {a : Act} {w : World} {Q : Exit → Act → World → Prop}
theorem at_updSM (hw : Region.wanted o (yielded ops a.tmps) = true) (m x y : Operand) (ho : o.op = .mapUpdate 74 m x y) (b n : Nat) (S : Int → Bool) (hm : a.eval m = .map (some b)) (k : Int) (hx : a.eval x = .int .i64 k) (hy : a.eval y = .agg #[]) (hM : MpS w b S n) (hn : n < maxLen) (hk : wfi k)
    (h : ∀ w', MpS w' b (fun x => S x || decide (x = k)) (n + 1) → Stp (fun x => x = b) w w' → wpList Try.prog ops Q rest (a.put o.dst undef) w') : wpList Try.prog ops Q (o :: rest) a w := by
  obtain ⟨w', r1, r2, r3⟩ := hM.storeM hn hk
  refine op_unit hw _ ?_ (h w' r2 r3)
  simp [execOp, ho, hm, hx, hy, r1]
theorem at_lookS (hw : Region.wanted o (yielded ops a.tmps) = true) (m x : Operand) (ho : o.op = .lookup 74 m x true) (b n : Nat) (S : Int → Bool) (hm : a.eval m = .map (some b)) (k : Int) (hx : a.eval x = .int .i64 k) (hM : MpS w b S n) (hk : wfi k)
    (h : wpList Try.prog ops Q rest (a.put o.dst (.tuple #[.agg #[], .bool (S k)])) w) : wpList Try.prog ops Q (o :: rest) a w := by
  refine op_val hw _ _ ?_ h
  simp [execOp, ho, hm, hx, hM.look hk]
theorem bldE (w : World) : (Instr.build 75 #[]).run Try.prog w = .ok (.agg #[]) w := by kernel_rfl
theorem at_bldE (hw : Region.wanted o (yielded ops a.tmps) = true) (ho : o.op = .build 75 #[]) (h : wpList Try.prog ops Q rest (a.put o.dst (.agg #[])) w) : wpList Try.prog ops Q (o :: rest) a w := by
  refine op_val hw _ _ ?_ h
  simp only [execOp, ho, Sem.run_bind, List.map_toArray, List.map_nil, bldE]; rfl
theorem run_mkS (w : World) (n : Int) : (Instr.makeMap 74 (some (.int .i64 n))).run Try.prog w = .ok (.map (some w.heap.size)) (w.alloc (.map #[] 0)) := by kernel_rfl
theorem at_mkS (hw : Region.wanted o (yielded ops a.tmps) = true) (x : Operand) (ho : o.op = .makeMap 74 (some x)) (n : Int) (hx : a.eval x = .int .i64 n)
    (h : ∀ b w', w.heap.size ≤ b → MpS w' b (fun _ => false) 0 → Below w.heap.size w w' → wpList Try.prog ops Q rest (a.put o.dst (.map (some b))) w') : wpList Try.prog ops Q (o :: rest) a w := by
  refine op_val hw _ _ ?_ (h w.heap.size (w.alloc (.map #[] 0)) (Nat.le_refl _) (MpS.made w) ((Below.refl _ _).alloc (Nat.le_refl _) _))
  simp [execOp, ho, hx, run_mkS]
end
end Go.Proofs.Yteceapdkgidenaa
namespace Go.Proofs.Yteceapdkgidenaa
open Go.ChangeShapes Go.WideShapes Go.ChangeAt Go.RowKit
set_option linter.unusedVariables false
set_option linter.unusedSimpArgs false

set_option maxRecDepth 100000 in
set_option maxHeartbeats 1000000 in
theorem among1_any {w : World} {g b m : Nat} {S : Int → Bool} (p : Pt) (d n : Sv) (hp : p.wfp) (hc : w.cell? ⟨g, 0, none⟩ = some (.map (some b))) (hM : MpS w b S m) :
    Calls Try.prog 51 #[.agg (p.cs d n).toArray, .pointer (some ⟨g, 0, none⟩)] w fun e w' => e = .returned (.bool (S p.id)) ∧ Below w.heap.size w w' := by
  have hpi : wfi p.id := hp.i
  go_enter Try.func51, Try.ntmps51
  go_wp2_with (first
    | (refine at_boxP (by rfl) _ (by rfl) p d n (by rfl) ?_; intro g1 w1 a1 z1 r1 b1
       have M1 := hM.later b1
       have c1 : w1.cell? ⟨g, 0, none⟩ = some (.map (some b)) := by rw [b1.cell (World.block_lt_of_cell? w _ hc)]; exact hc
       obtain ⟨q0, q1, q2, q3, q4, q5, q6, q7, q8⟩ := Pt.cells r1; clear q1 q2 q3 q4 q5 q6 q7 q8)
    | (refine at_lookS (by rfl) _ _ (by rfl) b m S (by rfl) p.id (by rfl) M1 hpi ?_))
  go_returns
  exact ⟨rfl, b1.alloc b1.size _⟩
/-- A function value that tells whether a patch's number is among l; made since w. -/
structure AmV (w w' : World) (v : Value) (l : List Int) (g b : Nat) : Prop where
  v : v = .func (.func 51) #[] #[.pointer (some ⟨g, 0, none⟩)]
  c : w'.cell? ⟨g, 0, none⟩ = some (.map (some b))
  m : MpS w' b (hsI l) l.length
  hg : w.heap.size ≤ g
  hb : w.heap.size ≤ b
theorem AmV.later {w w' u : World} {v : Value} {l : List Int} {g b : Nat} (h : AmV w w' v l g b) (k : Below w'.heap.size w' u) : AmV w u v l g b :=
  ⟨h.v, by rw [k.cell (World.block_lt_of_cell? w' _ h.c)]; exact h.c, h.m.later k, h.hg, h.hb⟩
theorem AmV.tells {w w' : World} {v : Value} {l : List Int} {g b : Nat} {F : Nat → Prop} (h : AmV w w' v l g b) (hF : ∀ x, F x → w'.heap.size ≤ x) : TellsR w' F 51 #[.pointer (some ⟨g, 0, none⟩)] (fun p => hsI l p.id) := fun u p d n hs hp => by
  have k := hs.below (Nat.le_refl _) hF
  have h' := h.later k
  exact among1_any p d n hp h'.c h'.m
set_option maxRecDepth 100000 in
set_option maxHeartbeats 1000000 in
theorem ramong_any {w : World} {s : Sv} {l : List Int} (h : InsS w s l) :
    Calls Try.prog 38 #[.slice s.a s.n s.c] w fun e w' => ∃ v g b, e = .returned v ∧ AmV w w' v l g b ∧ Below w.heap.size w w' := by
  have hl := h.i.len
  have hcap : s.n ≤ maxLen := by have := h.i.le; have := h.i.cap; omega
  have hcap2 : s.n ≤ 9223372036854775807 := by unfold maxLen at hcap; omega
  have hcell := h.i.cell
  have hwf := h.i.wf
  obtain ⟨sa, sn, sc⟩ := s
  simp only at hl hcell hcap hcap2 ⊢
  subst hl
  clear h
  have t1 : True := trivial
  go_enter Try.func38, Try.ntmps38
  go_wp2_with (first
    | (clear t1; refine at_mkS (by rfl) _ (by rfl) _ (by rfl) ?_; intro b w1 hb1 M1 b1))
  have hg := b1.size
  have b2 : Below w1.heap.size w1 (w1.alloc (.cells #[.map (some b)] 74)) := (Below.refl _ _).alloc (Nat.le_refl _) _
  have c2 : (w1.alloc (.cells #[.map (some b)] 74)).cell? ⟨w1.heap.size, 0, none⟩ = some (.map (some b)) := by simp [go_sem]
  have M2 := M1.later b2
  have B2 := bnext b1 b2 (Nat.le_refl _)
  have hne : w1.heap.size ≠ b := by have := M1.lt; omega
  generalize w1.alloc (.cells #[.map (some b)] 74) = w2 at *
  clear b1 b2 M1
  generalize w1.heap.size = g at *
  clear w1
  have hcl : ∀ bb o, sa = some ⟨bb, o, none⟩ → ∀ i, i < l.length → w2.cell? ⟨bb, o + i, none⟩ = some (.int .i64 (l.getD i 0)) ∧ bb ≠ b := fun bb o e i hi => by
    obtain ⟨b', o', e', hc⟩ := hcell (by omega)
    rw [e] at e'; injection e' with e'; injection e' with e1 e2; subst e1; subst e2
    have h1 := hc i hi
    have h2 := World.block_lt_of_cell? w _ h1
    refine ⟨by rw [B2.cell h2]; exact h1, fun e => ?_⟩
    simp only at h2; omega
  have hsome : 0 < l.length → ∃ bb o, sa = some ⟨bb, o, none⟩ := fun h => by obtain ⟨b', o', e', hc⟩ := hcell (by omega); exact ⟨b', o', e'⟩
  clear hcell
  go_loopw [11] (fun v wr => ∃ k : Nat, k ≤ l.length ∧ v = .int .i64 (k : Int) ∧ MpS wr b (hsI (l.take k)) k ∧ Stp (fun x => x = b) w2 wr) (fun v _ => l.length - (intOf v).toNat)
  case atStart => exact ⟨0, Nat.zero_le _, rfl, M2, Stp.refl _ _⟩
  case round =>
    obtain ⟨k, hk, rfl, Mk, sk⟩ := hrel
    have ck := sk.cell c2 hne
    by_cases hlt : k < l.length
    · obtain ⟨bb, o, rfl⟩ := hsome (by omega)
      obtain ⟨cl, hnb⟩ := hcl bb o rfl k hlt
      have c4 := sk.cell cl hnb
      have hw0 : wfi (l.getD k 0) := by
        rw [List.getD_eq_getElem?_getD, List.getElem?_eq_getElem hlt]; exact hwf _ (List.getElem_mem _)
      have hT : Hid ((fun x => hsI (l.take k) x || decide (x = l.getD k 0)) = hsI (l.take (k + 1))) := by
        show _ = _
        funext x
        unfold hsI
        rw [List.take_add_one, List.getElem?_eq_getElem hlt, List.any_append, List.getD_eq_getElem?_getD, List.getElem?_eq_getElem hlt]
        have hq : ∀ y : Int, (y == x) = decide (x = y) := fun y => by rw [Bool.eq_iff_iff, beq_iff_eq, decide_eq_true_eq]; exact eq_comm
        congr 1
        simp only [Option.toList_some, List.any_cons, List.any_nil, Bool.or_false, Option.getD_some, hq]
      generalize l.getD k 0 = y at *
      have a9 : (k : Int) < (l.length : Int) := by omega
      clear hcl hsome cl
      have t1 : True := trivial
      have t2 : True := trivial
      go_wp2_with (first
        | (clear t1; refine at_bldE (by rfl) (by rfl) ?_)
        | (clear t2; refine at_updSM (by rfl) _ _ _ (by rfl) b k _ (by rfl) y (by rfl) (by rfl) Mk (by omega) hw0 ?_; intro w5 m5 s5))
      go_roundw
      case rel => exact ⟨k + 1, by omega, by go_num, by rw [← hT.out]; exact m5, sk.trans s5⟩
      case measure => simp [intOf]; omega
    · obtain rfl : k = l.length := by omega
      have a9 : ¬ (l.length : Int) < (l.length : Int) := by omega
      rw [List.take_length] at Mk
      clear hcl hsome
      go_wp2_with fail
      go_returns
      exact ⟨_, rfl, ⟨g, b, ⟨rfl, ck, Mk, hg, hb1⟩⟩, ((Stp.of_below B2 (fun x => w.heap.size ≤ x)).next sk (fun x hx => .inl (by subst hx; exact hb1))).below (Nat.le_refl _) (fun _ h => h)⟩
end Go.Proofs.Yteceapdkgidenaa
namespace Go.Proofs.Yteceapdkgidenaa
open Go.ChangeShapes Go.WideShapes Go.ChangeAt Go.RowKit
set_option linter.unusedVariables false
set_option linter.unusedSimpArgs false

/-- Those of l whose numbers are among ids; and the others. -/
def smP (l : List Pt) (ids : List Int) : List Pt := l.filter fun p => hsI ids p.id
def woP (l : List Pt) (ids : List Int) : List Pt := l.filter fun p => !hsI ids p.id
set_option maxRecDepth 100000 in
set_option maxHeartbeats 2000000 in
theorem some_any {w : World} {E : Nat → Prop} {s n : Sv} {L : List Pe} {ids : List Int} (H : Ps w E s L) (h : InsS w n ids) (b : Blk) (hE : ∀ x, E x → x < w.heap.size) :
    Calls Try.prog 19 #[.agg b.cs.toArray, .slice s.a s.n s.c, .slice n.a n.n n.c] w fun e w' => e = .returned (.tuple #[.agg (nwB b (smP (pts L) ids)).cs.toArray, .int .i64 (nwE (smP (pts L) ids))]) ∧ Below w.heap.size w w' := by
  have hb := b.len
  have hR := (nwB b (smP (pts L) ids)).len
  obtain ⟨R, hRe⟩ : ∃ R, Hid (nwB b (smP (pts L) ids) = R) := ⟨_, rfl⟩
  obtain ⟨e0, he0⟩ : ∃ e0, Hid (nwE (smP (pts L) ids) = e0) := ⟨_, rfl⟩
  rw [hRe.out] at hR
  rw [hRe.out, he0.out]
  have hin : InE (fun x => x < w.heap.size) n := fun ad e h0 => by
    obtain ⟨b', o', e', hc⟩ := h.i.cell h0
    rw [e] at e'; injection e' with e'; subst e'
    exact World.block_lt_of_cell? w _ (hc 0 h0)
  have t1 : True := trivial
  go_enter Try.func19, Try.ntmps19
  go_wp2_with (first
    | (refine at_box 23 64 arrB (by rfl) _ (by rfl) b.l (by rfl) hb ?_; intro gb w1 a1 z1 r1 b1)
    | (clear t1; refine at_new 23 64 arrB (by rfl) (by rfl) ?_; intro gr W a2 z2 r2 b2))
  have r := r1.later b2
  have hgr : w.heap.size ≤ gr := by have := b1.size; omega
  have B2 := bnext b1 b2 (Nat.le_refl _)
  have hrne : ∀ x, x < w.heap.size → x ≠ gr := fun x hx e => by omega
  have hn : ∀ u, Stp (fun x => x = gr) W u → InsS u n ids := fun u hu => (h.later B2).step hu hin hrne
  have hgb : gb ≠ gr := by omega
  have HO : ∀ u v (k : World) (g m : Nat), Stp (fun x => x = gr) W u → AmV k u v ids g m → Calls Try.prog 36 #[.agg b.cs.toArray, .slice s.a s.n s.c, .func (.func 51) #[] #[.pointer (some ⟨g, 0, none⟩)]] u fun e w' => e = .returned (.tuple #[.agg R.cs.toArray, .int .i64 e0]) ∧ Below u.heap.size u w' := fun u v k g m hu hv => by
    rw [← hRe.out, ← he0.out]
    exact over_any ((H.later B2).step hu (fun x hx => hrne x (hE x hx))) 51 #[.pointer (some ⟨g, 0, none⟩)] (fun p => hsI ids p.id) b (hv.tells (fun x hx => hx)) (fun args w => rfl) (fun x hx => Nat.lt_of_lt_of_le (hE x hx) (Nat.le_trans B2.size hu.size))
  clear z1 z2 r1 b1 H h
  obtain ⟨sa, sn, sc⟩ := s
  obtain ⟨na, nn, nc⟩ := n
  simp only at hn HO ⊢
  have r2d : Row W.drew gr (List.replicate 64 0) := r2.later (Below.refl _ _).drew
  refine wp_region_held_drew (S := fun u => Stp (fun x => x = gr) W u) (by kernel_rfl) (Stp.refl _ _).drew (fun hHeld => ?_)
  refine wpAnyH_take (i := 0) (oi := { dst := some 8, op := Op.load 23 (Operand.tmp 3), type := 23, pos := _, after := #[], guard := none }) (v := .agg b.cs.toArray) rfl (by kernel_rfl) (by kernel_rfl) (by kernel_rfl) (fun _ _ _ h => h)
    (yields_row 23 64 arrB (by rfl) (.tmp 3) rfl gb (by rfl) b.l hb (fun u hu => r.step hu hgb)) hHeld ?_
  try simp only [Act.put, List.setIfInBounds_toArray, List.set_cons_zero, List.set_cons_succ]
  refine wpAnyH_take (i := 1) (oi := { dst := some 9, op := Op.move (Operand.tmp 1), type := 39, pos := _, after := #[], guard := none }) (v := .slice sa sn sc) rfl (by kernel_rfl) (by kernel_rfl) (by kernel_rfl) (fun _ _ _ h => h) (Or.inl ⟨by rfl, ?_⟩) hHeld ?_
  · intro u hu
    go_simp
  try simp only [Act.put, List.setIfInBounds_toArray, List.set_cons_zero, List.set_cons_succ]
  refine wpAnyH_take (i := 2) (oi := { dst := some 10, op := Op.move (Operand.tmp 2), type := 25, pos := _, after := #[], guard := none }) (v := .slice na nn nc) rfl (by kernel_rfl) (by kernel_rfl) (by kernel_rfl) (fun _ _ _ h => h) (Or.inl ⟨by rfl, ?_⟩) hHeld ?_
  · intro u hu
    go_simp
  try simp only [Act.put, List.setIfInBounds_toArray, List.set_cons_zero, List.set_cons_succ]
  refine wpAnyH_ready (rs := [3]) (by kernel_rfl) (by simp) ?_
  refine (AllReadyH.cons (o := { dst := some 11, op := Op.call { callee := Callee.value (Operand.func 38), args := #[Operand.tmp 10], argTypes := #[25] }, type := 57, pos := _, after := #[{ on := 2, ground := Ground.data }], guard := none }) rfl (fun K hK => ?_) AllReadyH.nil)
  go_simp
  refine (ramong_any (hn _ hHeld)).mono ?_
  rintro e v3 ⟨fv, g, m, rfl, A3, c3⟩
  obtain rfl := A3.v
  have yr := r2d.later c3
  try go_wp2_with fail
  refine hK.out _ _ (hHeld.trans (Stp.of_below c3 _)) (fun hHeld => ?_)
  clear hK K
  try simp only [Act.put, List.setIfInBounds_toArray, List.set_cons_zero, List.set_cons_succ]
  refine wpAnyH_ready (rs := [4]) (by kernel_rfl) (by simp) ?_
  refine (AllReadyH.cons (o := { dst := some 12, op := Op.call { callee := Callee.value (Operand.func 36), args := #[Operand.tmp 8, Operand.tmp 9, Operand.tmp 11], argTypes := #[23, 39, 57] }, type := 31, pos := _, after := #[{ on := 0, ground := Ground.data }, { on := 1, ground := Ground.data }, { on := 3, ground := Ground.data }, { on := 3, ground := Ground.chain }], guard := none }) rfl (fun K hK => ?_) AllReadyH.nil)
  go_simp
  refine (HO _ _ _ g m hHeld A3).mono ?_
  rintro e v4 ⟨rfl, c4⟩
  have yr2 := yr.later c4
  try go_wp2_with fail
  refine hK.out _ _ (hHeld.trans (Stp.of_below c4 _)) (fun hHeld => ?_)
  clear hK K
  try simp only [Act.put, List.setIfInBounds_toArray, List.set_cons_zero, List.set_cons_succ]
  refine wpAnyH_take (i := 5) (oi := { dst := some 13, op := Op.extract (Operand.tmp 12) 0, type := 23, pos := _, after := #[{ on := 4, ground := Ground.data }], guard := none }) (v := .agg R.cs.toArray) rfl (by kernel_rfl) (by kernel_rfl) (by kernel_rfl) (fun _ _ _ h => h) (Or.inl ⟨by rfl, ?_⟩) hHeld ?_
  · intro u hu
    go_simp
  try simp only [Act.put, List.setIfInBounds_toArray, List.set_cons_zero, List.set_cons_succ]
  refine wpAnyH_take (i := 6) (oi := { dst := some 14, op := Op.extract (Operand.tmp 12) 1, type := 30, pos := _, after := #[{ on := 4, ground := Ground.data }], guard := none }) (v := .int .i64 e0) rfl (by kernel_rfl) (by kernel_rfl) (by kernel_rfl) (fun _ _ _ h => h) (Or.inl ⟨by rfl, ?_⟩) hHeld ?_
  · intro u hu
    go_simp
  try simp only [Act.put, List.setIfInBounds_toArray, List.set_cons_zero, List.set_cons_succ]
  refine wpAnyH_ready (rs := [7]) (by kernel_rfl) (by simp) ?_
  refine (AllReadyH.cons (o := { dst := none, op := Op.store 23 (Operand.tmp 6) (Operand.tmp 13), type := 0, pos := _, after := #[{ on := 5, ground := Ground.data }, { on := 4, ground := Ground.chain }, { on := 0, ground := Ground.phase }, { on := 1, ground := Ground.phase }, { on := 2, ground := Ground.phase }, { on := 3, ground := Ground.phase }, { on := 4, ground := Ground.phase }, { on := 5, ground := Ground.phase }, { on := 6, ground := Ground.phase }], guard := none }) rfl (fun K hK => ?_) AllReadyH.nil)
  refine step_put 23 64 arrB rfl (.tmp 6) (.tmp 13) rfl gr (by rfl) R.l (by rfl) hR _ yr2 (by simp) ?_
  intro v7 y7 s7
  refine hK.out _ _ (hHeld.trans s7) (fun hHeld => ?_)
  clear hK K
  try simp only [Act.put]
  refine wpAnyH_take (i := 8) (oi := { dst := some 7, op := Op.assign (Operand.tmp 14), type := 30, pos := _, after := #[{ on := 6, ground := Ground.data }, { on := 7, ground := Ground.chain }, { on := 0, ground := Ground.phase }, { on := 1, ground := Ground.phase }, { on := 2, ground := Ground.phase }, { on := 3, ground := Ground.phase }, { on := 4, ground := Ground.phase }, { on := 5, ground := Ground.phase }, { on := 6, ground := Ground.phase }, { on := 7, ground := Ground.phase }], guard := none }) (v := .int .i64 e0) rfl (by kernel_rfl) (by kernel_rfl) (by kernel_rfl) (fun _ _ _ h => h) (Or.inl ⟨by rfl, ?_⟩) hHeld ?_
  · intro u hu
    go_simp
  try simp only [Act.put, List.setIfInBounds_toArray, List.set_cons_zero, List.set_cons_succ]
  refine wpAnyH_done (by kernel_rfl) ?_ _
  go_wp2_with fail
  exact bodyPost_ret (retAt arrB Try.results19 rfl rfl y7 hR) rfl ⟨rfl, ((Stp.of_below B2 (fun x => w.heap.size ≤ x)).next hHeld (fun x hx => .inl (by subst hx; exact hgr))).below (Nat.le_refl _) (fun _ h => h)⟩
end Go.Proofs.Yteceapdkgidenaa
namespace Go.Proofs.Yteceapdkgidenaa
open Go.ChangeShapes Go.WideShapes Go.ChangeAt Go.RowKit
set_option linter.unusedVariables false
set_option linter.unusedSimpArgs false

theorem pts_filter (L : List Pe) (q : Pt → Bool) : pts (L.filter fun t => q t.p) = (pts L).filter q := by
  unfold pts; rw [List.filter_map]; rfl
theorem pts_len' (L : List Pe) : (pts L).length = L.length := by unfold pts; simp
/-- A list of patches of one's own, of patches that lie elsewhere, as a slice that is read. -/
theorem PuI.ps {w wr : World} {v : Value} {M : List Pe} (h : PuI w wr v M) (hwf : ∀ t ∈ M, t.p.wfp) (hms : ∀ t ∈ M, PtM wr (fun x => x < wr.heap.size) t.p t.d t.n) : ∃ s : Sv, v = .slice s.a s.n s.c ∧ s.n = M.length ∧ Ps wr (fun x => x < wr.heap.size) s M := by
  have how := h.ow
  rcases h.ow.2 with ⟨e1, e2⟩ | ⟨g, cap, cur, e1, _, e3, e4, e5, e6, e7⟩
  · obtain rfl : M = [] := List.eq_nil_of_length_eq_zero e2
    exact ⟨Sv.nil, e1, rfl, Ps.nilS _ _⟩
  · subst e1
    refine ⟨⟨some ⟨g, 0, none⟩, M.length, cap⟩, rfl, rfl, rfl, e4, e5, (fun e => by cases e), fun hn => ⟨g, 0, rfl, how.lt rfl, fun i t ht => ?_⟩, hwf, hms⟩
    have hi := (List.getElem?_eq_some_iff.1 ht).1
    obtain ⟨b, t', h1, h2, h3⟩ := how.el i hi
    injection h1 with h1; injection h1 with h1; subst h1
    rw [ht] at h2; injection h2 with h2; subst h2
    rw [Nat.zero_add]; exact h3
theorem flt_stepQ {l : List Pe} {k : Nat} {t : Pe} (h : l[k]? = some t) (q : Pe → Bool) : (l.take (k + 1)).filter q = (l.take k).filter q ++ (if q t = true then [t] else []) := by
  rw [List.take_add_one, h, List.filter_append]
  congr 1
  simp [List.filter_cons]
set_option maxRecDepth 100000 in
set_option maxHeartbeats 2000000 in
theorem rrwithout_any {w : World} {E : Nat → Prop} {s n : Sv} {L : List Pe} {ids : List Int} (H : Ps w E s L) (h : InsS w n ids) (hL0 : L.length ≤ 1000) :
    Calls Try.prog 23 #[.slice s.a s.n s.c, .slice n.a n.n n.c] w fun e w' => ∃ v, e = .returned v ∧ PuI w w' v (L.filter fun t => !hsI ids t.p.id) := by
  have hcap : s.n ≤ 9223372036854775807 := by have := H.le; have := H.cap; unfold maxLen at this; omega
  have hlen := H.len
  obtain ⟨sa, sn, sc⟩ := s
  obtain ⟨na, nn, nc⟩ := n
  simp only at hcap hlen hL0
  subst hlen
  have start := PuI.made w w (Below.refl _ _)
  go_enter Try.func23, Try.ntmps23
  go_wp2_with fail
  generalize w.alloc (.cells #[] 27) = w0 at *
  generalize hv0 : Value.slice (some ⟨w.heap.size, 0, none⟩) 0 0 = v0 at *
  clear hv0
  go_loopw [5, 6] (fun v i wr => ∃ k : Nat, k ≤ L.length ∧ i = .int .i64 (k : Int) ∧ PuI w wr v ((L.take k).filter fun t => !hsI ids t.p.id) ) (fun _ i _ => L.length - (intOf i).toNat)
  case atStart => exact ⟨0, Nat.zero_le _, rfl, start ⟩
  case round =>
    clear start
    obtain ⟨k, hk, rfl, I⟩ := hrel
    obtain ⟨xa, xc, rfl, hx1, hx0⟩ := I.ow.shape
    have hfl : ((L.take k).filter fun t => !hsI ids t.p.id).length ≤ L.length := Nat.le_trans (List.length_filter_le _ _) (by simp; omega)
    by_cases hkl : k < L.length
    · have a9 : (k : Int) < (L.length : Int) := by omega
      have Hr := H.later (w' := wr) I.b
      obtain ⟨bb, o, e0, hbE, hcell⟩ := Hr.cell (by simpa using (by omega : 0 < L.length))
      simp only at e0
      subst e0
      obtain ⟨T, hT⟩ : ∃ T, L[k]? = some T := ⟨L[k], List.getElem?_eq_getElem hkl⟩
      have hrg := hcell k T hT
      have hst := flt_stepQ hT fun t => !hsI ids t.p.id
      have hni := h.later I.b
      have HS := rhas_any hni T.p.id
      have c0 := (Pe.at9 hrg).1
      clear hcell hbE
      have t1 : True := trivial
      have t2 : True := trivial
      cases hq : hsI ids T.p.id with
      | true =>
        rw [hq] at HS
        simp only [hq, Bool.not_true, Bool.false_eq_true, if_false, List.append_nil] at hst
        go_wp2_with (first
          | (go_at_call 39; refine HS.mono ?_; rintro e w1 ⟨rfl, rfl⟩))
        go_roundw
        case rel => exact ⟨k + 1, by omega, by go_num, by rw [hst]; exact I⟩
        case measure => simp [intOf]; omega
      | false =>
        rw [hq] at HS
        simp only [hq, Bool.not_false, if_true] at hst
        have hbig : ((L.take k).filter fun t => !hsI ids t.p.id).length + 1 ≤ 1000000 := by omega
        go_wp2_with (first
          | (go_at_call 39; refine HS.mono ?_; rintro e w1 ⟨rfl, rfl⟩)
          | (clear t1; refine at_getE _ (by rfl) (by rfl) bb (o + k * 9) (by rfl) T hrg ?_)
          | (clear t2; refine at_bsP _ (by rfl) (by rfl) T (by rfl) ?_
             have b2 : Below wr.heap.size wr (wr.alloc (.cells T.cs.toArray 27)) := (Below.refl _ wr).alloc (Nat.le_refl _) _
             have hnew := cell_new9 wr T 27)
          | (at_builtin; refine at_appR elP w.heap.size rfl _ _ (by rfl) (by rfl) (ro_later I.ow b2) I.nw (some ⟨wr.heap.size, 0, none⟩) 1 T.cs (by rfl) (by rfl) (fun e => by cases e) (fun ad e => by injection e with e; subst e; exact hnew) (Pe.cs_one _) hbig (Nat.le_trans I.b.size b2.size) ?_; intro v' w9 hA; have I9 := I.app b2 hA; clear hA))
        go_roundw
        case rel => exact ⟨k + 1, by omega, by go_num, by rw [hst]; exact I9⟩
        case measure => simp [intOf]; omega
    · have a9 : ¬ (k : Int) < (L.length : Int) := by omega
      rw [List.take_of_length_le (by omega)] at I ⊢
      go_wp2_with fail
      go_returns
      exact ⟨_, rfl, I⟩
end Go.Proofs.Yteceapdkgidenaa
namespace Go.Proofs.Yteceapdkgidenaa
open Go.ChangeShapes Go.WideShapes Go.ChangeAt Go.RowKit
set_option linter.unusedVariables false
set_option linter.unusedSimpArgs false

set_option maxRecDepth 100000 in
set_option maxHeartbeats 2000000 in
theorem rrsome_any {w : World} {E : Nat → Prop} {s n : Sv} {L : List Pe} {ids : List Int} (H : Ps w E s L) (h : InsS w n ids) (b : Blk) (hE : ∀ x, E x → x < w.heap.size) (hL0 : L.length ≤ 1000) :
    Calls Try.prog 21 #[.agg b.cs.toArray, .slice s.a s.n s.c, .slice n.a n.n n.c] w fun e w' => e = .returned (.tuple #[.agg (nwB b (smP (pts L) ids)).cs.toArray, .int .i64 (nwE (smP (pts L) ids))]) ∧ Below w.heap.size w w' := by
  have hcap : s.n ≤ 9223372036854775807 := by have := H.le; have := H.cap; unfold maxLen at this; omega
  have hlen := H.len
  have hb := b.len
  have hR := (nwB b (smP (pts L) ids)).len
  obtain ⟨R, hRe⟩ : ∃ R, Hid (nwB b (smP (pts L) ids) = R) := ⟨_, rfl⟩
  obtain ⟨e0, he0⟩ : ∃ e0, Hid (nwE (smP (pts L) ids) = e0) := ⟨_, rfl⟩
  rw [hRe.out] at hR
  rw [hRe.out, he0.out]
  obtain ⟨sa, sn, sc⟩ := s
  obtain ⟨na, nn, nc⟩ := n
  simp only at hcap hlen hL0
  subst hlen
  have u1 : True := trivial
  go_enter Try.func21, Try.ntmps21
  go_wp2_with (first
    | (refine at_box 23 64 arrB (by rfl) _ (by rfl) b.l (by rfl) hb ?_; intro gb w1 a1 z1 r1 b1)
    | (clear u1; refine at_new 23 64 arrB (by rfl) (by rfl) ?_; intro gr W a2 z2 r2 b2
       have start := PuI.made w W (bnext b1 b2 (Nat.le_refl _))
       have b3 : Below W.heap.size W (W.alloc (.cells #[] 27)) := (Below.refl _ _).alloc (Nat.le_refl _) _
       have hN0 := b3.size
       have rb := (r1.later b2).later b3
       have rr := r2.later b3
       have hgb : gb < W.heap.size := r1.later b2 |>.lt
       have hgr : w.heap.size ≤ gr := by have := b1.size; omega
       clear r1 r2 a1 a2 z1 b3))
  have hv0 : ∀ r, (Value.slice (some ⟨W.heap.size, 0, none⟩) 0 0).ownBlock = some r → W.heap.size ≤ r := fun r e => by
    have : W.heap.size = r := by simpa [Value.ownBlock] using e
    omega
  generalize W.alloc (.cells #[] 27) = w0 at *
  generalize Value.slice (some ⟨W.heap.size, 0, none⟩) 0 0 = v0 at *
  generalize W.heap.size = N at *
  go_loopw [8, 9] (fun v i wr => ∃ k : Nat, k ≤ L.length ∧ i = .int .i64 (k : Int) ∧ PuI w wr v ((L.take k).filter fun t => hsI ids t.p.id) ∧ Row wr gb b.l ∧ Row wr gr (List.replicate 64 0) ∧ New N v ∧ N ≤ wr.heap.size) (fun _ i _ => L.length - (intOf i).toNat)
  case atStart => exact ⟨0, Nat.zero_le _, rfl, start , rb, rr, hv0, hN0⟩
  case round =>
    clear start
    obtain ⟨k, hk, rfl, I, rb, rr, hNv, hNs⟩ := hrel
    obtain ⟨xa, xc, rfl, hx1, hx0⟩ := I.ow.shape
    have hfl : ((L.take k).filter fun t => hsI ids t.p.id).length ≤ L.length := Nat.le_trans (List.length_filter_le _ _) (by simp; omega)
    by_cases hkl : k < L.length
    · have a9 : (k : Int) < (L.length : Int) := by omega
      have Hr := H.later (w' := wr) I.b
      obtain ⟨bb, o, e0, hbE, hcell⟩ := Hr.cell (by simpa using (by omega : 0 < L.length))
      simp only at e0
      subst e0
      obtain ⟨T, hT⟩ : ∃ T, L[k]? = some T := ⟨L[k], List.getElem?_eq_getElem hkl⟩
      have hrg := hcell k T hT
      have hst := flt_stepQ hT fun t => hsI ids t.p.id
      have hni := h.later I.b
      have HS := rhas_any hni T.p.id
      have c0 := (Pe.at9 hrg).1
      clear hcell hbE
      have t1 : True := trivial
      have t2 : True := trivial
      cases hq : hsI ids T.p.id with
      | false =>
        rw [hq] at HS
        simp only [hq, Bool.false_eq_true, if_false, List.append_nil] at hst
        go_wp2_with (first
          | (go_at_call 39; refine HS.mono ?_; rintro e w1 ⟨rfl, rfl⟩))
        go_roundw
        case rel => exact ⟨k + 1, by omega, by go_num, by rw [hst]; exact I, rb, rr, hNv, hNs⟩
        case measure => simp [intOf]; omega
      | true =>
        rw [hq] at HS
        simp only [hq, if_true] at hst
        have hbig : ((L.take k).filter fun t => hsI ids t.p.id).length + 1 ≤ 1000000 := by omega
        go_wp2_with (first
          | (go_at_call 39; refine HS.mono ?_; rintro e w1 ⟨rfl, rfl⟩)
          | (clear t1; refine at_getE _ (by rfl) (by rfl) bb (o + k * 9) (by rfl) T hrg ?_)
          | (clear t2; refine at_bsP _ (by rfl) (by rfl) T (by rfl) ?_
             have b2 : Below wr.heap.size wr (wr.alloc (.cells T.cs.toArray 27)) := (Below.refl _ wr).alloc (Nat.le_refl _) _
             have hnew := cell_new9 wr T 27)
          | (at_builtin; refine at_appR elP w.heap.size rfl _ _ (by rfl) (by rfl) (ro_later I.ow b2) I.nw (some ⟨wr.heap.size, 0, none⟩) 1 T.cs (by rfl) (by rfl) (fun e => by cases e) (fun ad e => by injection e with e; subst e; exact hnew) (Pe.cs_one _) hbig (Nat.le_trans I.b.size b2.size) ?_; intro v' w9 hA; have I9 := I.app b2 hA; have A1 := hA.2.2.1; have A2 := hA.2.2.2.1; have hrb := (rb.later b2).step A2 (fun e => by have := hNv _ e; omega); have hrr := (rr.later b2).step A2 (fun e => by have := hNv _ e; omega); have hNs9 : N ≤ w9.heap.size := Nat.le_trans (Nat.le_trans hNs b2.size) A2.size; have hNv9 : New N v' := (fun r e => by rcases A1 with A1 | ⟨A1, _⟩; exact hNv r (by rw [← A1]; exact e); rw [A1] at e; injection e with e; have := b2.size; omega); clear hA))
        go_roundw
        case rel => exact ⟨k + 1, by omega, by go_num, by rw [hst]; exact I9, hrb, hrr, hNv9, hNs9⟩
        case measure => simp [intOf]; omega
    · have a9 : ¬ (k : Int) < (L.length : Int) := by omega
      rw [List.take_of_length_le (by omega)] at I ⊢
      obtain ⟨sv, e1, e2, P9⟩ := I.ps (fun t ht => H.wf t (List.mem_filter.1 ht).1) (fun t ht => ((H.ms t (List.mem_filter.1 ht).1).later I.b).mono (fun x hx => Nat.lt_of_lt_of_le (hE x hx) I.b.size))
      have HN := rrnow_any P9 b
      rw [show pts (L.filter fun t => hsI ids t.p.id) = smP (pts L) ids from pts_filter L (fun p => hsI ids p.id), hRe.out, he0.out] at HN
      have hIb := I.b
      rw [e1]
      clear P9 e1 e2 I hE H h hL0 hfl a9 hx1 hx0 hRe he0 hNv hcap
      go_wp2_with (first
        | (refine at_get 23 64 arrB (by rfl) _ (by rfl) gb (by rfl) _ rb hb ?_)
        | (go_at_call 18; refine HN.mono ?_; rintro e w3 ⟨rfl, b3⟩)
        | (refine at_put 23 64 arrB (by rfl) _ _ (by rfl) gr (by rfl) R.l (by rfl) hR _ (rr.later b3) (by simp) ?_; intro w9 r9 s9))
      exact bodyPost_ret (retAt arrB Try.results21 rfl rfl r9 hR) rfl ⟨rfl, ((Stp.of_below (bnext hIb b3 (Nat.le_refl _)) (fun x => w.heap.size ≤ x)).next s9 (fun x hx => .inl (by subst hx; exact hgr))).below (Nat.le_refl _) (fun _ h => h)⟩
end Go.Proofs.Yteceapdkgidenaa
namespace Go.Proofs.Yteceapdkgidenaa
open Go.ChangeShapes Go.WideShapes Go.ChangeAt Go.RowKit
set_option linter.unusedVariables false
set_option linter.unusedSimpArgs false

set_option maxRecDepth 100000 in
set_option maxHeartbeats 2000000 in
theorem rown_any {w : World} {E : Nat → Prop} {p : Pt} {d n : Sv} (h : PtM w E p d n) (h1 : p.data.length ≤ 100000) (h2 : p.needs.length ≤ 100000) :
    Calls Try.prog 40 #[.agg (p.cs d n).toArray] w fun e w' => ∃ d' n' : Sv, e = .returned (.agg (p.cs d' n').toArray) ∧ PtM w' (Made w w') p d' n' ∧ Below w.heap.size w w' := by
  have tok : True := trivial
  have tok2 : True := trivial
  go_enter Try.func40, Try.ntmps40
  go_wp2_with (first
    | (clear tok; refine at_boxP (by rfl) _ (by rfl) p d n (by rfl) ?_; intro g1 w1 a1 a2 r1 b1)
    | (clear tok2; refine at_newP (by rfl) (by rfl) ?_; intro g2 w2 a3 a4 r2 b2))
  have dr : Below w2.heap.size w2 w2.drew := (Below.refl _ _).drew
  have hP := ((h.later b1).later b2).later dr
  have hC := (r1.later b2).later dr
  have hB : Below w.heap.size w w2.drew := (bnext b1 b2 (Nat.le_refl _)).drew
  replace r2 := r2.later dr
  have hG : g2 < w2.drew.heap.size := a4
  have hne : g1 ≠ g2 := by omega
  obtain ⟨c0, c1, c2, c3, c4, c5, c6, c7, c8⟩ := Pt.cells hC
  have f3 := hC.frozen 3
  have f5 := hC.frozen 5
  clear r1 b1 b2 h dr
  refine wp_region_held_drew (S := fun _ => True) (by kernel_rfl) trivial (fun hHeld => ?_)
  have l3 : ∀ u, Cs u g1 (p.cs d n) → (loadVar 24 ⟨g1, 3, none⟩).run Try.prog u = .ok (.slice d.a d.n d.c) u := fun u hu => by
    have := (Pt.cells hu).2.2.2.1; go_simp
  have l5 : ∀ u, Cs u g1 (p.cs d n) → (loadVar 25 ⟨g1, 5, none⟩).run Try.prog u = .ok (.slice n.a n.n n.c) u := fun u hu => by
    have := (Pt.cells hu).2.2.2.2.2.1; go_simp
  have s3 : ∀ u (d' : Sv) cs, Cs u g1 cs → cs.length = 9 → (storeVar 24 ⟨g1, 3, none⟩ (.slice d'.a d'.n d'.c)).run Try.prog u = .ok () (u.setCell ⟨g1, 3, none⟩ (.slice d'.a d'.n d'.c)) := fun u d' cs hu hl => by
    have h1 := hu.cell 3 _ (List.getElem?_eq_getElem (by omega)); have h2 := hu.frozen 3; go_simp
  have s5 : ∀ u (d' : Sv) cs, Cs u g1 cs → cs.length = 9 → (storeVar 25 ⟨g1, 5, none⟩ (.slice d'.a d'.n d'.c)).run Try.prog u = .ok () (u.setCell ⟨g1, 5, none⟩ (.slice d'.a d'.n d'.c)) := fun u d' cs hu hl => by
    have h1 := hu.cell 5 _ (List.getElem?_eq_getElem (by omega)); have h2 := hu.frozen 5; go_simp
  clear c0 c1 c2 c3 c4 c5 c6 c7 c8 f3 f5
  have fin : ∀ u (s1 s2 : Sv), Cs u g1 (p.cs d n) → Cs u g2 (Pt.zero.cs Sv.nil Sv.nil) → BsS u s1 p.data → InsS u s2 p.needs → InE (fun x => g2 < x ∧ x < u.heap.size) s1 → InE (fun x => g2 < x ∧ x < u.heap.size) s2 → Below w.heap.size w u →
      ∃ u', (u.setCell ⟨g1, 3, none⟩ (.slice s1.a s1.n s1.c)).setCell ⟨g1, 5, none⟩ (.slice s2.a s2.n s2.c) = u' ∧ Cs u' g1 (p.cs s1 s2) ∧ Cs u' g2 (Pt.zero.cs Sv.nil Sv.nil) ∧ PtM u' (fun x => g2 < x ∧ x < u'.heap.size) p s1 s2 ∧ Below w.heap.size w u' := by
    intro u s1 s2 k1 k2 k3 k4 k5 k6 k7
    have st : Stp (fun x => x = g1) u ((u.setCell ⟨g1, 3, none⟩ (.slice s1.a s1.n s1.c)).setCell ⟨g1, 5, none⟩ (.slice s2.a s2.n s2.c)) := ((Stp.refl (fun x => x = g1) u).setCell (p := ⟨g1, 3, none⟩) (.inl rfl) _).setCell (p := ⟨g1, 5, none⟩) (.inl rfl) _
    have hsz := st.size
    refine ⟨_, rfl, (k1.set 3 (.slice s1.a s1.n s1.c) rfl).set 5 (.slice s2.a s2.n s2.c) rfl, k2.step st (Ne.symm hne), ⟨k3.step st k5 (fun x hx e => by omega), k4.step st k6 (fun x hx e => by omega), k5.mono (fun x hx => ⟨hx.1, by omega⟩), k6.mono (fun x hx => ⟨hx.1, by omega⟩)⟩, ?_⟩
    exact ((Stp.of_below k7 (fun _ => False)).next st (fun x e => .inr (by omega))).below (Nat.le_refl _) (fun x e => e.elim)
  refine wpAnyH_take (i := 0) (oi := { dst := some 3, op := Op.fieldAddr 27 (Operand.tmp 1) 3, type := 0, pos := _, after := #[], guard := none }) (v := .pointer (some ⟨g1, 3, none⟩)) rfl (by kernel_rfl) (by kernel_rfl) (by kernel_rfl) (fun _ _ _ h => h) (Or.inl ⟨by rfl, ?_⟩) hHeld ?_
  · intro u hu
    go_simp
  try simp only [Act.put, List.setIfInBounds_toArray, List.set_cons_zero, List.set_cons_succ]
  refine wpAnyH_take (i := 3) (oi := { dst := some 6, op := Op.fieldAddr 27 (Operand.tmp 1) 5, type := 0, pos := _, after := #[], guard := none }) (v := .pointer (some ⟨g1, 5, none⟩)) rfl (by kernel_rfl) (by kernel_rfl) (by kernel_rfl) (fun _ _ _ h => h) (Or.inl ⟨by rfl, ?_⟩) hHeld ?_
  · intro u hu
    go_simp
  try simp only [Act.put, List.setIfInBounds_toArray, List.set_cons_zero, List.set_cons_succ]
  refine wpAnyH_ready (rs := [1, 4]) (by kernel_rfl) (by simp) ?_
  refine (AllReadyH.cons (o := { dst := some 4, op := Op.load 24 (Operand.tmp 3), type := 24, pos := _, after := #[{ on := 0, ground := Ground.data }], guard := none }) rfl (fun K hK => ?_) (AllReadyH.cons (o := { dst := some 7, op := Op.load 25 (Operand.tmp 6), type := 25, pos := _, after := #[{ on := 3, ground := Ground.data }], guard := none }) rfl (fun K hK => ?_) AllReadyH.nil))
  · skip
    refine step_ld _ _ (.slice d.a d.n d.c) rfl _ (by rfl) (by rfl) (l3 _ hC) ?_
    refine hK.out _ _ (trivial) (fun hHeld => ?_)
    clear hK K
    try simp only [Act.put, List.setIfInBounds_toArray, List.set_cons_zero, List.set_cons_succ]
    refine wpAnyH_ready (rs := [2, 4]) (by kernel_rfl) (by simp) ?_
    refine (AllReadyH.cons (o := { dst := some 5, op := Op.call { callee := Callee.value (Operand.func 52), args := #[Operand.tmp 4], argTypes := #[24] }, type := 24, pos := _, after := #[{ on := 1, ground := Ground.data }], guard := none }) rfl (fun K hK => ?_) (AllReadyH.cons (o := { dst := some 7, op := Op.load 25 (Operand.tmp 6), type := 25, pos := _, after := #[{ on := 3, ground := Ground.data }], guard := none }) rfl (fun K hK => ?_) AllReadyH.nil))
    · skip
      go_simp
      refine (clone_b hP.bs h1).mono ?_
      rintro e w3 ⟨x1, rfl, q1, q3, q4⟩
      try go_wp2_with fail
      replace hP := hP.later q4
      replace hC := hC.later q4
      replace r2 := r2.later q4
      try replace t1 := t1.later q4
      try replace t3 := t3.mono (E' := fun x => g2 < x ∧ x < w3.heap.size) (fun x hx => ⟨hx.1, Nat.lt_of_lt_of_le hx.2 q4.size⟩)
      replace q3 := q3.mono (E' := fun x => g2 < x ∧ x < w3.heap.size) (fun x hx => ⟨Nat.lt_of_lt_of_le hG hx.1, hx.2⟩)
      replace hG := Nat.lt_of_lt_of_le hG q4.size
      replace hB := bnext hB q4 (Nat.le_refl _)
      refine hK.out _ _ (trivial) (fun hHeld => ?_)
      clear hK K
      try simp only [Act.put, List.setIfInBounds_toArray, List.set_cons_zero, List.set_cons_succ]
      refine wpAnyH_ready (rs := [4]) (by kernel_rfl) (by simp) ?_
      refine (AllReadyH.cons (o := { dst := some 7, op := Op.load 25 (Operand.tmp 6), type := 25, pos := _, after := #[{ on := 3, ground := Ground.data }], guard := none }) rfl (fun K hK => ?_) AllReadyH.nil)
      refine step_ld _ _ (.slice n.a n.n n.c) rfl _ (by rfl) (by rfl) (l5 _ hC) ?_
      refine hK.out _ _ (trivial) (fun hHeld => ?_)
      clear hK K
      try simp only [Act.put, List.setIfInBounds_toArray, List.set_cons_zero, List.set_cons_succ]
      refine wpAnyH_take (i := 6) (oi := { dst := some 9, op := Op.fieldAddr 27 (Operand.tmp 1) 3, type := 0, pos := _, after := #[{ on := 0, ground := Ground.phase }, { on := 1, ground := Ground.phase }, { on := 2, ground := Ground.phase }, { on := 3, ground := Ground.phase }, { on := 4, ground := Ground.phase }, { on := 5, ground := Ground.textOnly Departure.lateStoresUnsure }], guard := none }) (v := .pointer (some ⟨g1, 3, none⟩)) rfl (by kernel_rfl) (by kernel_rfl) (by kernel_rfl) (fun _ _ _ h => h) (Or.inl ⟨by rfl, ?_⟩) hHeld ?_
      · intro u hu
        go_simp
      try simp only [Act.put, List.setIfInBounds_toArray, List.set_cons_zero, List.set_cons_succ]
      refine wpAnyH_ready (rs := [5]) (by kernel_rfl) (by simp) ?_
      refine (AllReadyH.cons (o := { dst := some 8, op := Op.call { callee := Callee.value (Operand.func 53), args := #[Operand.tmp 7], argTypes := #[25] }, type := 25, pos := _, after := #[{ on := 4, ground := Ground.data }, { on := 2, ground := Ground.chain }], guard := none }) rfl (fun K hK => ?_) AllReadyH.nil)
      go_simp
      refine (clone_i hP.is h2).mono ?_
      rintro e w4 ⟨x2, rfl, t1, t3, t4⟩
      try go_wp2_with fail
      replace hP := hP.later t4
      replace hC := hC.later t4
      replace r2 := r2.later t4
      try replace q1 := q1.later t4
      try replace q3 := q3.mono (E' := fun x => g2 < x ∧ x < w4.heap.size) (fun x hx => ⟨hx.1, Nat.lt_of_lt_of_le hx.2 t4.size⟩)
      replace t3 := t3.mono (E' := fun x => g2 < x ∧ x < w4.heap.size) (fun x hx => ⟨Nat.lt_of_lt_of_le hG hx.1, hx.2⟩)
      replace hG := Nat.lt_of_lt_of_le hG t4.size
      replace hB := bnext hB t4 (Nat.le_refl _)
      refine hK.out _ _ (trivial) (fun hHeld => ?_)
      clear hK K
      try simp only [Act.put, List.setIfInBounds_toArray, List.set_cons_zero, List.set_cons_succ]
      refine wpAnyH_ready (rs := [7]) (by kernel_rfl) (by simp) ?_
      refine (AllReadyH.cons (o := { dst := none, op := Op.store 24 (Operand.tmp 9) (Operand.tmp 5), type := 0, pos := _, after := #[{ on := 6, ground := Ground.data }, { on := 2, ground := Ground.data }, { on := 5, ground := Ground.chain }, { on := 0, ground := Ground.phase }, { on := 1, ground := Ground.phase }, { on := 2, ground := Ground.phase }, { on := 3, ground := Ground.phase }, { on := 4, ground := Ground.phase }, { on := 5, ground := Ground.textOnly Departure.lateStoresUnsure }], guard := none }) rfl (fun K hK => ?_) AllReadyH.nil)
      refine step_st _ _ _ _ rfl _ _ (by rfl) (by rfl) (by rfl) (s3 _ x1 _ hC rfl) ?_
      refine hK.out _ _ (trivial) (fun hHeld => ?_)
      clear hK K
      try simp only [Act.put]
      refine wpAnyH_take (i := 8) (oi := { dst := some 10, op := Op.fieldAddr 27 (Operand.tmp 1) 5, type := 0, pos := _, after := #[{ on := 0, ground := Ground.phase }, { on := 1, ground := Ground.phase }, { on := 2, ground := Ground.phase }, { on := 3, ground := Ground.phase }, { on := 4, ground := Ground.phase }, { on := 5, ground := Ground.phase }, { on := 6, ground := Ground.phase }, { on := 7, ground := Ground.phase }], guard := none }) (v := .pointer (some ⟨g1, 5, none⟩)) rfl (by kernel_rfl) (by kernel_rfl) (by kernel_rfl) (fun _ _ _ h => h) (Or.inl ⟨by rfl, ?_⟩) hHeld ?_
      · intro u hu
        go_simp
      try simp only [Act.put, List.setIfInBounds_toArray, List.set_cons_zero, List.set_cons_succ]
      refine wpAnyH_ready (rs := [9]) (by kernel_rfl) (by simp) ?_
      refine (AllReadyH.cons (o := { dst := none, op := Op.store 25 (Operand.tmp 10) (Operand.tmp 8), type := 0, pos := _, after := #[{ on := 8, ground := Ground.data }, { on := 5, ground := Ground.data }, { on := 7, ground := Ground.chain }, { on := 0, ground := Ground.phase }, { on := 1, ground := Ground.phase }, { on := 2, ground := Ground.phase }, { on := 3, ground := Ground.phase }, { on := 4, ground := Ground.phase }, { on := 5, ground := Ground.phase }, { on := 6, ground := Ground.phase }, { on := 7, ground := Ground.phase }], guard := none }) rfl (fun K hK => ?_) AllReadyH.nil)
      refine step_st _ _ _ _ rfl _ _ (by rfl) (by rfl) (by rfl) (s5 _ x2 _ (hC.set 3 (.slice x1.a x1.n x1.c) rfl) rfl) ?_
      refine hK.out _ _ (trivial) (fun hHeld => ?_)
      clear hK K
      try simp only [Act.put]
      refine wpAnyH_done (by kernel_rfl) ?_ _
      obtain ⟨u', e', m1, m2, m3, m4⟩ := fin _ x1 x2 hC r2 q1 t1 q3 t3 hB
      rw [e']
      clear e' hC r2 q1 t1 q3 t3 hB hP fin l3 l5 s3 s5 hG
      go_wp2_with (first | (refine at_getP0 (by rfl) _ (by rfl) g1 (by rfl) p x1 x2 m1 ?_) | (refine at_putP (by rfl) _ _ (by rfl) g2 (by rfl) p x1 x2 (by rfl) _ m2 rfl ?_; intro w5 m5 m6))
      refine bodyPost_ret (retC srtP rfl rfl m5 rfl) rfl ⟨x1, x2, rfl, ?_, ?_⟩
      · exact (m3.step m6 (fun x hx e => by omega)).mono (fun x hx => ⟨by omega, Nat.lt_of_lt_of_le hx.2 m6.size⟩)
      · exact ((Stp.of_below m4 (fun _ => False)).next m6 (fun x e => .inr (by omega))).below (Nat.le_refl _) (fun x e => e.elim)
    · skip
      refine step_ld _ _ (.slice n.a n.n n.c) rfl _ (by rfl) (by rfl) (l5 _ hC) ?_
      refine hK.out _ _ (trivial) (fun hHeld => ?_)
      clear hK K
      try simp only [Act.put, List.setIfInBounds_toArray, List.set_cons_zero, List.set_cons_succ]
      refine wpAnyH_ready (rs := [2]) (by kernel_rfl) (by simp) ?_
      refine (AllReadyH.cons (o := { dst := some 5, op := Op.call { callee := Callee.value (Operand.func 52), args := #[Operand.tmp 4], argTypes := #[24] }, type := 24, pos := _, after := #[{ on := 1, ground := Ground.data }], guard := none }) rfl (fun K hK => ?_) AllReadyH.nil)
      go_simp
      refine (clone_b hP.bs h1).mono ?_
      rintro e w3 ⟨x1, rfl, q1, q3, q4⟩
      try go_wp2_with fail
      replace hP := hP.later q4
      replace hC := hC.later q4
      replace r2 := r2.later q4
      try replace t1 := t1.later q4
      try replace t3 := t3.mono (E' := fun x => g2 < x ∧ x < w3.heap.size) (fun x hx => ⟨hx.1, Nat.lt_of_lt_of_le hx.2 q4.size⟩)
      replace q3 := q3.mono (E' := fun x => g2 < x ∧ x < w3.heap.size) (fun x hx => ⟨Nat.lt_of_lt_of_le hG hx.1, hx.2⟩)
      replace hG := Nat.lt_of_lt_of_le hG q4.size
      replace hB := bnext hB q4 (Nat.le_refl _)
      refine hK.out _ _ (trivial) (fun hHeld => ?_)
      clear hK K
      try simp only [Act.put, List.setIfInBounds_toArray, List.set_cons_zero, List.set_cons_succ]
      refine wpAnyH_take (i := 6) (oi := { dst := some 9, op := Op.fieldAddr 27 (Operand.tmp 1) 3, type := 0, pos := _, after := #[{ on := 0, ground := Ground.phase }, { on := 1, ground := Ground.phase }, { on := 2, ground := Ground.phase }, { on := 3, ground := Ground.phase }, { on := 4, ground := Ground.phase }, { on := 5, ground := Ground.textOnly Departure.lateStoresUnsure }], guard := none }) (v := .pointer (some ⟨g1, 3, none⟩)) rfl (by kernel_rfl) (by kernel_rfl) (by kernel_rfl) (fun _ _ _ h => h) (Or.inl ⟨by rfl, ?_⟩) hHeld ?_
      · intro u hu
        go_simp
      try simp only [Act.put, List.setIfInBounds_toArray, List.set_cons_zero, List.set_cons_succ]
      refine wpAnyH_ready (rs := [5]) (by kernel_rfl) (by simp) ?_
      refine (AllReadyH.cons (o := { dst := some 8, op := Op.call { callee := Callee.value (Operand.func 53), args := #[Operand.tmp 7], argTypes := #[25] }, type := 25, pos := _, after := #[{ on := 4, ground := Ground.data }, { on := 2, ground := Ground.chain }], guard := none }) rfl (fun K hK => ?_) AllReadyH.nil)
      go_simp
      refine (clone_i hP.is h2).mono ?_
      rintro e w4 ⟨x2, rfl, t1, t3, t4⟩
      try go_wp2_with fail
      replace hP := hP.later t4
      replace hC := hC.later t4
      replace r2 := r2.later t4
      try replace q1 := q1.later t4
      try replace q3 := q3.mono (E' := fun x => g2 < x ∧ x < w4.heap.size) (fun x hx => ⟨hx.1, Nat.lt_of_lt_of_le hx.2 t4.size⟩)
      replace t3 := t3.mono (E' := fun x => g2 < x ∧ x < w4.heap.size) (fun x hx => ⟨Nat.lt_of_lt_of_le hG hx.1, hx.2⟩)
      replace hG := Nat.lt_of_lt_of_le hG t4.size
      replace hB := bnext hB t4 (Nat.le_refl _)
      refine hK.out _ _ (trivial) (fun hHeld => ?_)
      clear hK K
      try simp only [Act.put, List.setIfInBounds_toArray, List.set_cons_zero, List.set_cons_succ]
      refine wpAnyH_ready (rs := [7]) (by kernel_rfl) (by simp) ?_
      refine (AllReadyH.cons (o := { dst := none, op := Op.store 24 (Operand.tmp 9) (Operand.tmp 5), type := 0, pos := _, after := #[{ on := 6, ground := Ground.data }, { on := 2, ground := Ground.data }, { on := 5, ground := Ground.chain }, { on := 0, ground := Ground.phase }, { on := 1, ground := Ground.phase }, { on := 2, ground := Ground.phase }, { on := 3, ground := Ground.phase }, { on := 4, ground := Ground.phase }, { on := 5, ground := Ground.textOnly Departure.lateStoresUnsure }], guard := none }) rfl (fun K hK => ?_) AllReadyH.nil)
      refine step_st _ _ _ _ rfl _ _ (by rfl) (by rfl) (by rfl) (s3 _ x1 _ hC rfl) ?_
      refine hK.out _ _ (trivial) (fun hHeld => ?_)
      clear hK K
      try simp only [Act.put]
      refine wpAnyH_take (i := 8) (oi := { dst := some 10, op := Op.fieldAddr 27 (Operand.tmp 1) 5, type := 0, pos := _, after := #[{ on := 0, ground := Ground.phase }, { on := 1, ground := Ground.phase }, { on := 2, ground := Ground.phase }, { on := 3, ground := Ground.phase }, { on := 4, ground := Ground.phase }, { on := 5, ground := Ground.phase }, { on := 6, ground := Ground.phase }, { on := 7, ground := Ground.phase }], guard := none }) (v := .pointer (some ⟨g1, 5, none⟩)) rfl (by kernel_rfl) (by kernel_rfl) (by kernel_rfl) (fun _ _ _ h => h) (Or.inl ⟨by rfl, ?_⟩) hHeld ?_
      · intro u hu
        go_simp
      try simp only [Act.put, List.setIfInBounds_toArray, List.set_cons_zero, List.set_cons_succ]
      refine wpAnyH_ready (rs := [9]) (by kernel_rfl) (by simp) ?_
      refine (AllReadyH.cons (o := { dst := none, op := Op.store 25 (Operand.tmp 10) (Operand.tmp 8), type := 0, pos := _, after := #[{ on := 8, ground := Ground.data }, { on := 5, ground := Ground.data }, { on := 7, ground := Ground.chain }, { on := 0, ground := Ground.phase }, { on := 1, ground := Ground.phase }, { on := 2, ground := Ground.phase }, { on := 3, ground := Ground.phase }, { on := 4, ground := Ground.phase }, { on := 5, ground := Ground.phase }, { on := 6, ground := Ground.phase }, { on := 7, ground := Ground.phase }], guard := none }) rfl (fun K hK => ?_) AllReadyH.nil)
      refine step_st _ _ _ _ rfl _ _ (by rfl) (by rfl) (by rfl) (s5 _ x2 _ (hC.set 3 (.slice x1.a x1.n x1.c) rfl) rfl) ?_
      refine hK.out _ _ (trivial) (fun hHeld => ?_)
      clear hK K
      try simp only [Act.put]
      refine wpAnyH_done (by kernel_rfl) ?_ _
      obtain ⟨u', e', m1, m2, m3, m4⟩ := fin _ x1 x2 hC r2 q1 t1 q3 t3 hB
      rw [e']
      clear e' hC r2 q1 t1 q3 t3 hB hP fin l3 l5 s3 s5 hG
      go_wp2_with (first | (refine at_getP0 (by rfl) _ (by rfl) g1 (by rfl) p x1 x2 m1 ?_) | (refine at_putP (by rfl) _ _ (by rfl) g2 (by rfl) p x1 x2 (by rfl) _ m2 rfl ?_; intro w5 m5 m6))
      refine bodyPost_ret (retC srtP rfl rfl m5 rfl) rfl ⟨x1, x2, rfl, ?_, ?_⟩
      · exact (m3.step m6 (fun x hx e => by omega)).mono (fun x hx => ⟨by omega, Nat.lt_of_lt_of_le hx.2 m6.size⟩)
      · exact ((Stp.of_below m4 (fun _ => False)).next m6 (fun x e => .inr (by omega))).below (Nat.le_refl _) (fun x e => e.elim)
  · skip
    refine step_ld _ _ (.slice n.a n.n n.c) rfl _ (by rfl) (by rfl) (l5 _ hC) ?_
    refine hK.out _ _ (trivial) (fun hHeld => ?_)
    clear hK K
    try simp only [Act.put, List.setIfInBounds_toArray, List.set_cons_zero, List.set_cons_succ]
    refine wpAnyH_ready (rs := [1]) (by kernel_rfl) (by simp) ?_
    refine (AllReadyH.cons (o := { dst := some 4, op := Op.load 24 (Operand.tmp 3), type := 24, pos := _, after := #[{ on := 0, ground := Ground.data }], guard := none }) rfl (fun K hK => ?_) AllReadyH.nil)
    refine step_ld _ _ (.slice d.a d.n d.c) rfl _ (by rfl) (by rfl) (l3 _ hC) ?_
    refine hK.out _ _ (trivial) (fun hHeld => ?_)
    clear hK K
    try simp only [Act.put, List.setIfInBounds_toArray, List.set_cons_zero, List.set_cons_succ]
    refine wpAnyH_ready (rs := [2]) (by kernel_rfl) (by simp) ?_
    refine (AllReadyH.cons (o := { dst := some 5, op := Op.call { callee := Callee.value (Operand.func 52), args := #[Operand.tmp 4], argTypes := #[24] }, type := 24, pos := _, after := #[{ on := 1, ground := Ground.data }], guard := none }) rfl (fun K hK => ?_) AllReadyH.nil)
    go_simp
    refine (clone_b hP.bs h1).mono ?_
    rintro e w3 ⟨x1, rfl, q1, q3, q4⟩
    try go_wp2_with fail
    replace hP := hP.later q4
    replace hC := hC.later q4
    replace r2 := r2.later q4
    try replace t1 := t1.later q4
    try replace t3 := t3.mono (E' := fun x => g2 < x ∧ x < w3.heap.size) (fun x hx => ⟨hx.1, Nat.lt_of_lt_of_le hx.2 q4.size⟩)
    replace q3 := q3.mono (E' := fun x => g2 < x ∧ x < w3.heap.size) (fun x hx => ⟨Nat.lt_of_lt_of_le hG hx.1, hx.2⟩)
    replace hG := Nat.lt_of_lt_of_le hG q4.size
    replace hB := bnext hB q4 (Nat.le_refl _)
    refine hK.out _ _ (trivial) (fun hHeld => ?_)
    clear hK K
    try simp only [Act.put, List.setIfInBounds_toArray, List.set_cons_zero, List.set_cons_succ]
    refine wpAnyH_take (i := 6) (oi := { dst := some 9, op := Op.fieldAddr 27 (Operand.tmp 1) 3, type := 0, pos := _, after := #[{ on := 0, ground := Ground.phase }, { on := 1, ground := Ground.phase }, { on := 2, ground := Ground.phase }, { on := 3, ground := Ground.phase }, { on := 4, ground := Ground.phase }, { on := 5, ground := Ground.textOnly Departure.lateStoresUnsure }], guard := none }) (v := .pointer (some ⟨g1, 3, none⟩)) rfl (by kernel_rfl) (by kernel_rfl) (by kernel_rfl) (fun _ _ _ h => h) (Or.inl ⟨by rfl, ?_⟩) hHeld ?_
    · intro u hu
      go_simp
    try simp only [Act.put, List.setIfInBounds_toArray, List.set_cons_zero, List.set_cons_succ]
    refine wpAnyH_ready (rs := [5]) (by kernel_rfl) (by simp) ?_
    refine (AllReadyH.cons (o := { dst := some 8, op := Op.call { callee := Callee.value (Operand.func 53), args := #[Operand.tmp 7], argTypes := #[25] }, type := 25, pos := _, after := #[{ on := 4, ground := Ground.data }, { on := 2, ground := Ground.chain }], guard := none }) rfl (fun K hK => ?_) AllReadyH.nil)
    go_simp
    refine (clone_i hP.is h2).mono ?_
    rintro e w4 ⟨x2, rfl, t1, t3, t4⟩
    try go_wp2_with fail
    replace hP := hP.later t4
    replace hC := hC.later t4
    replace r2 := r2.later t4
    try replace q1 := q1.later t4
    try replace q3 := q3.mono (E' := fun x => g2 < x ∧ x < w4.heap.size) (fun x hx => ⟨hx.1, Nat.lt_of_lt_of_le hx.2 t4.size⟩)
    replace t3 := t3.mono (E' := fun x => g2 < x ∧ x < w4.heap.size) (fun x hx => ⟨Nat.lt_of_lt_of_le hG hx.1, hx.2⟩)
    replace hG := Nat.lt_of_lt_of_le hG t4.size
    replace hB := bnext hB t4 (Nat.le_refl _)
    refine hK.out _ _ (trivial) (fun hHeld => ?_)
    clear hK K
    try simp only [Act.put, List.setIfInBounds_toArray, List.set_cons_zero, List.set_cons_succ]
    refine wpAnyH_ready (rs := [7]) (by kernel_rfl) (by simp) ?_
    refine (AllReadyH.cons (o := { dst := none, op := Op.store 24 (Operand.tmp 9) (Operand.tmp 5), type := 0, pos := _, after := #[{ on := 6, ground := Ground.data }, { on := 2, ground := Ground.data }, { on := 5, ground := Ground.chain }, { on := 0, ground := Ground.phase }, { on := 1, ground := Ground.phase }, { on := 2, ground := Ground.phase }, { on := 3, ground := Ground.phase }, { on := 4, ground := Ground.phase }, { on := 5, ground := Ground.textOnly Departure.lateStoresUnsure }], guard := none }) rfl (fun K hK => ?_) AllReadyH.nil)
    refine step_st _ _ _ _ rfl _ _ (by rfl) (by rfl) (by rfl) (s3 _ x1 _ hC rfl) ?_
    refine hK.out _ _ (trivial) (fun hHeld => ?_)
    clear hK K
    try simp only [Act.put]
    refine wpAnyH_take (i := 8) (oi := { dst := some 10, op := Op.fieldAddr 27 (Operand.tmp 1) 5, type := 0, pos := _, after := #[{ on := 0, ground := Ground.phase }, { on := 1, ground := Ground.phase }, { on := 2, ground := Ground.phase }, { on := 3, ground := Ground.phase }, { on := 4, ground := Ground.phase }, { on := 5, ground := Ground.phase }, { on := 6, ground := Ground.phase }, { on := 7, ground := Ground.phase }], guard := none }) (v := .pointer (some ⟨g1, 5, none⟩)) rfl (by kernel_rfl) (by kernel_rfl) (by kernel_rfl) (fun _ _ _ h => h) (Or.inl ⟨by rfl, ?_⟩) hHeld ?_
    · intro u hu
      go_simp
    try simp only [Act.put, List.setIfInBounds_toArray, List.set_cons_zero, List.set_cons_succ]
    refine wpAnyH_ready (rs := [9]) (by kernel_rfl) (by simp) ?_
    refine (AllReadyH.cons (o := { dst := none, op := Op.store 25 (Operand.tmp 10) (Operand.tmp 8), type := 0, pos := _, after := #[{ on := 8, ground := Ground.data }, { on := 5, ground := Ground.data }, { on := 7, ground := Ground.chain }, { on := 0, ground := Ground.phase }, { on := 1, ground := Ground.phase }, { on := 2, ground := Ground.phase }, { on := 3, ground := Ground.phase }, { on := 4, ground := Ground.phase }, { on := 5, ground := Ground.phase }, { on := 6, ground := Ground.phase }, { on := 7, ground := Ground.phase }], guard := none }) rfl (fun K hK => ?_) AllReadyH.nil)
    refine step_st _ _ _ _ rfl _ _ (by rfl) (by rfl) (by rfl) (s5 _ x2 _ (hC.set 3 (.slice x1.a x1.n x1.c) rfl) rfl) ?_
    refine hK.out _ _ (trivial) (fun hHeld => ?_)
    clear hK K
    try simp only [Act.put]
    refine wpAnyH_done (by kernel_rfl) ?_ _
    obtain ⟨u', e', m1, m2, m3, m4⟩ := fin _ x1 x2 hC r2 q1 t1 q3 t3 hB
    rw [e']
    clear e' hC r2 q1 t1 q3 t3 hB hP fin l3 l5 s3 s5 hG
    go_wp2_with (first | (refine at_getP0 (by rfl) _ (by rfl) g1 (by rfl) p x1 x2 m1 ?_) | (refine at_putP (by rfl) _ _ (by rfl) g2 (by rfl) p x1 x2 (by rfl) _ m2 rfl ?_; intro w5 m5 m6))
    refine bodyPost_ret (retC srtP rfl rfl m5 rfl) rfl ⟨x1, x2, rfl, ?_, ?_⟩
    · exact (m3.step m6 (fun x hx e => by omega)).mono (fun x hx => ⟨by omega, Nat.lt_of_lt_of_le hx.2 m6.size⟩)
    · exact ((Stp.of_below m4 (fun _ => False)).next m6 (fun x e => .inr (by omega))).below (Nat.le_refl _) (fun x e => e.elim)
theorem FwI.nilV (w wr : World) (b : Below w.heap.size w wr) : FwI w wr (.slice none 0 0) [] := ⟨⟨OwP.nil _, (fun r e => by cases e), b⟩, (fun t ht => by cases ht), (fun t ht => by cases ht)⟩
theorem AmV.keep {k w u : World} {v : Value} {l : List Int} {g b : Nat} {F : Nat → Prop} (h : AmV k w v l g b) (s : Stp F w u) (hF : ∀ x, F x → w.heap.size ≤ x) : AmV k u v l g b := by
  have hg := World.block_lt_of_cell? w _ h.c
  refine ⟨h.v, s.cell h.c (fun e => ?_), h.m.step s (fun e => ?_), h.hg, h.hb⟩
  · have := hF _ e; simp only at hg this; omega
  · have := hF _ e; have := h.m.lt; omega
set_option maxRecDepth 100000 in
set_option maxHeartbeats 2000000 in
theorem without_any {w : World} {E : Nat → Prop} {s n : Sv} {L : List Pe} {ids : List Int} (H : Ps w E s L) (h : InsS w n ids) (hL0 : L.length ≤ 1000) (hsm : ∀ t ∈ L, t.p.data.length ≤ 100000 ∧ t.p.needs.length ≤ 100000) :
    Calls Try.prog 22 #[.slice s.a s.n s.c, .slice n.a n.n n.c] w fun e w' => ∃ v L', e = .returned v ∧ FwI w w' v L' ∧ pts L' = (pts L).filter fun p => !hsI ids p.id := by
  have hcap : s.n ≤ 9223372036854775807 := by have := H.le; have := H.cap; unfold maxLen at this; omega
  have hlen := H.len
  obtain ⟨sa, sn, sc⟩ := s
  simp only at hcap hlen
  subst hlen
  have hlp : (pts L).length = L.length := by unfold pts; simp
  go_enter Try.func22, Try.ntmps22
  go_wp2_with (first
    | (go_at_call 38; refine (ramong_any h).mono ?_; rintro e w0 ⟨fv, g, m, rfl, A0, b0⟩; obtain rfl := A0.v))
  have start := FwI.nilV w w0 b0
  have eg : ∀ args w, (callFunc 51 args).run Try.prog w = .ok (.enter 51 args) w := fun args w => rfl
  go_loopw [6, 13] (fun v i wr => ∃ (k : Nat) (L' : List Pe), k ≤ L.length ∧ i = .int .i64 (k : Int) ∧ FwI w wr v L' ∧ pts L' = ((pts L).take k).filter (fun p => !hsI ids p.id) ∧ Stp (fun x => w0.heap.size ≤ x) w0 wr ∧ New w0.heap.size v) (fun _ i _ => L.length - (intOf i).toNat)
  case atStart => exact ⟨0, [], Nat.zero_le _, rfl, start, rfl, Stp.refl _ _, (fun r e => by cases e)⟩
  case round =>
    clear start
    obtain ⟨k, L', hk, rfl, I, hL, sk, hN⟩ := hrel
    obtain ⟨xa, xc, rfl, hx1, hx0⟩ := I.pu.ow.shape
    have hll : L'.length ≤ 1000 := by
      have e1 : (pts L').length = L'.length := by unfold pts; simp
      have h2 := List.length_filter_le (fun p => !hsI ids p.id) ((pts L).take k)
      rw [List.length_take, ← hL] at h2
      omega
    have Ar := A0.keep sk (fun x hx => hx)
    by_cases hkl : k < L.length
    · have a9 : (k : Int) < (L.length : Int) := by omega
      have Hr := H.later (w' := wr) I.pu.b
      obtain ⟨bb, o, e0, hbE, hcell⟩ := Hr.cell (by simpa using (by omega : 0 < L.length))
      simp only at e0
      subst e0
      obtain ⟨T, hT⟩ : ∃ T, L[k]? = some T := ⟨L[k], List.getElem?_eq_getElem hkl⟩
      have hrg := hcell k T hT
      have hmem := List.mem_of_getElem? hT
      have hwf := H.wf T hmem
      have hPM := Hr.ms T hmem
      have hsz := hsm T hmem
      have hst := flt_stepP (l := pts L) (k := k) (p := T.p) (by unfold pts; rw [List.getElem?_map, hT]; rfl) fun p => !hsI ids p.id
      clear hcell hbE
      have t1 : True := trivial
      have t2 : True := trivial
      go_wp2_with (first
        | (clear t1; refine at_getE _ (by rfl) (by rfl) bb (o + k * 9) (by rfl) T hrg ?_)
        | (clear t2; refine at_newP (by rfl) (by rfl) ?_; intro g5 w5 a5 z5 r5 b5)
        | (refine at_putP (by rfl) _ _ (by rfl) g5 (by rfl) T.p T.d T.n (by rfl) _ r5 rfl ?_; intro w6 r6 s6)
        | (refine at_getP0 (by rfl) _ (by rfl) g5 (by rfl) T.p T.d T.n r6 ?_))
      have B6 : Below wr.heap.size wr w6 := ((Stp.of_below b5 (fun _ => False)).next s6 (fun x e => .inr (by omega))).below (Nat.le_refl _) (fun x e => e.elim)
      have A6 := Ar.later B6
      refine (among1_any T.p T.d T.n hwf A6.c A6.m).mono ?_
      rintro e w7 ⟨rfl, b7⟩
      have r7 := r6.later b7
      have B7 := bnext B6 b7 (Nat.le_refl _)
      have m7 := hPM.later B7
      have I7 := I.later B7
      have S7 : Stp (fun x => w0.heap.size ≤ x) w0 w7 := sk.trans (Stp.of_below B7 _)
      have HO := rown_any m7 hsz.1 hsz.2
      clear b5 s6 r6 r5 B6 b7 a5 z5 hrg hPM A6 Ar I m7 hsz
      cases hqt : hsI ids T.p.id with
      | true =>
        simp only [hqt, Bool.not_true, Bool.false_eq_true, if_false, List.append_nil] at hst
        clear HO
        go_wp2_with fail
        go_roundw
        case rel => exact ⟨k + 1, L', by omega, by go_num, I7, by rw [hst]; exact hL, S7, hN⟩
        case measure => simp [intOf]; omega
      | false =>
        simp only [hqt, Bool.not_false, if_true] at hst
        have hbig : L'.length + 1 ≤ 1000000 := by omega
        have t3 : True := trivial
        have t4 : True := trivial
        go_wp2_with (first
          | (clear t3; refine at_getP0 (by rfl) _ (by rfl) g5 (by rfl) T.p T.d T.n r7 ?_)
          | (go_at_call 40; refine HO.mono ?_; rintro e w8 ⟨d', n', rfl, m8, b8⟩)
          | (clear t4; refine at_bsP _ (by rfl) (by rfl) (⟨T.p, d', n'⟩ : Pe) (by rfl) ?_
             have b2 : Below w8.heap.size w8 (w8.alloc (.cells (⟨T.p, d', n'⟩ : Pe).cs.toArray 27)) := (Below.refl _ w8).alloc (Nat.le_refl _) _
             have hnew := cell_new9 w8 (⟨T.p, d', n'⟩ : Pe) 27)
          | (at_builtin; refine halt_here ?_))
        intro _
        refine at_appR elP w.heap.size rfl _ _ (by rfl) (by rfl) (ro_later (ro_later I7.pu.ow b8) b2) I7.pu.nw (some ⟨w8.heap.size, 0, none⟩) 1 (⟨T.p, d', n'⟩ : Pe).cs (by rfl) (by rfl) (fun e => by cases e) (fun ad e => by injection e with e; subst e; exact hnew) (Pe.cs_one _) hbig (Nat.le_trans I7.pu.b.size (Nat.le_trans b8.size b2.size)) ?_
        intro v' w9 hA
        have I9 := FwI.app (t := (⟨T.p, d', n'⟩ : Pe)) I7 b8 b2 hwf m8 hA
        have A1 := hA.2.2.1
        have A2 := hA.2.2.2.1
        have S8 : Stp (fun x => w0.heap.size ≤ x) w0 (w8.alloc (.cells (⟨T.p, d', n'⟩ : Pe).cs.toArray 27)) := (S7.trans (Stp.of_below b8 _)).trans (Stp.of_below b2 _)
        have S9 : Stp (fun x => w0.heap.size ≤ x) w0 w9 := S8.next A2 (fun x e => .inl (hN x e))
        have hN9 : New w0.heap.size v' := (fun r e => by
          rcases A1 with A1 | ⟨A1, _⟩
          · exact hN r (by rw [← A1]; exact e)
          · rw [A1] at e; injection e with e; have := S8.size; omega)
        clear hA
        go_wp2_with fail
        go_roundw
        case rel => exact ⟨k + 1, _, by omega, by go_num, I9, by rw [hst, ← hL]; unfold pts; simp, S9, hN9⟩
        case measure => simp [intOf]; omega
    · have a9 : ¬ (k : Int) < (L.length : Int) := by omega
      rw [List.take_of_length_le (by omega)] at hL
      go_wp2_with fail
      go_returns
      exact ⟨_, rfl, L', I, hL⟩
end Go.Proofs.Yteceapdkgidenaa
namespace Go.Proofs.Yteceapdkgidenaa
open Go.ChangeShapes Go.WideShapes Go.ChangeAt Go.RowKit
set_option linter.unusedVariables false
set_option linter.unusedSimpArgs false

section
variable {H : Type} {enc : TypeId × Value → H} {w : World} {base : Nat} {spare : Nat → Bool} {held : Bool}
theorem ins_szS {fuel : Nat} {a : Option Addr} {n c : Nat} {x : DataW H × List MemPlace} (h : DataW.trod enc Try.prog w base spare held fuel 25 [.slice a n c] = some x) : n = 0 ∨ ∃ k ∈ x.1.weights Try.prog 25, n * 8 ≤ k := by
  rcases Deep.open_slice (e := 3) (by kernel_rfl) h with ⟨hcs, _⟩ | ⟨b, len, cap, m, _, D, Pl, hcs, _, hl, hm, hmm, hx, _⟩
  · left; injection hcs with hcs _; injection hcs
  · right
    injection hcs with hcs _
    injection hcs with _ hn _
    subst hn
    have hb : Try.prog.bytesOf 3 = 8 := by kernel_rfl
    have hu : Try.prog.underlying 25 = some (.slice 3) := by kernel_rfl
    refine ⟨_, by rw [hx]; simp only [DataW.weights, hu]; exact List.mem_cons_self .., ?_⟩
    rw [hb]; simp; omega
theorem insz_of {fuel : Nat} {cs : List Value} {x : DataW H × List MemPlace} (h : DataW.trod enc Try.prog w base spare held fuel 25 cs = some x) (hz : ∀ k ∈ x.1.weights Try.prog 25, k ≤ reachBytes) :
    ∃ (s : Sv) (l : List Int), cs = [.slice s.a s.n s.c] ∧ InsS w s l ∧ l.length * 8 ≤ reachBytes := by
  obtain ⟨s, l, e, hi⟩ := insS_of_trod h
  subst e
  refine ⟨s, l, rfl, hi, ?_⟩
  rw [hi.i.len]
  rcases ins_szS h with h0 | ⟨k, hk, hle⟩
  · rw [h0]; simp
  · exact Nat.le_trans hle (hz k hk)
end
theorem infoI : (Try.prog.info? 3).map (fun i => (i.zero, i.size, i.bytes)) = some (some (.int .i64 0), 1, 8) := by kernel_rfl
theorem apd_runI {w : World} {v : Value} {n m B : Nat} {xs : List Value} (ty : TypeId) (h0 : w.ownsRow 0 3 1 v n xs) (hN : New B v) (xa : Option Addr) (c : Nat) (news : List Value) (hl : news.length = m * 1) (hnil : xa = none → m = 0 ∧ c = 0) (hnews : ∀ ad, xa = some ad → ∀ j u, news[j]? = some u → w.cell? (ad.add j) = some u) (h1 : ∀ u ∈ news, u.oneCell' = true) (h63 : n + m ≤ maxLen) (hby : (n + m) * 8 ≤ 140737488355328) (hB : B ≤ w.heap.size) :
    ∃ v' w', (Builtin.append_ #[25, 25] ty #[v, .slice xa m c]).run Try.prog w = .ok v' w' ∧ Apd w B 3 1 v n m (xs ++ news) v' w' := by
  obtain ⟨i0, hi, hz0, hz1, hz2⟩ := info_parts infoI
  cases xa with
  | none =>
    obtain ⟨rfl, rfl⟩ := hnil rfl
    obtain rfl : news = [] := List.eq_nil_of_length_eq_zero (by rw [hl, Nat.zero_mul])
    have hrun := run_append_owned_none (P := Try.prog) (w := w) 0 25 ty 3 i0 1 elI.und hi v n xs h0
    exact ⟨v, w, hrun, by simpa using h0, hN, .inl rfl, Stp.refl _ _, by simp⟩
  | some ad =>
    obtain ⟨v', w', hr, h2, h3, h4, h5⟩ := run_append_own_at (P := Try.prog) w B 25 ty 3 i0 (.int .i64 0) 1 8 elI.und hi hz0 hz1 hz2 rfl (by omega) v n xs (ro_base h0 hN) ad m c news hl (hnews ad rfl) h1 h63 hby hB
    have hlt := h2.lt
    refine ⟨v', w', hr, ro_zero h2, fun r hr => (hlt r hr).1, ?_, Stp.of_grown h3 (fun x e => .inl e), h4⟩
    rcases h5 with e5 | e5
    · exact .inl e5
    · exact .inr ⟨e5, (hlt _ e5).2⟩
theorem at_appI {ops : Array Oper} {rest : List Oper} {o : Oper} {a : Act} {w : World} {Q : Exit → Act → World → Prop} {v : Value} {n m : Nat} {xs : List Value} (B : Nat) (hgd : o.guard = none) (s x : Operand) (ho : o.op = .call { callee := .builtin .append, args := #[s, x], argTypes := #[25, 25] }) (hs : a.eval s = v) (h0 : w.ownsRow 0 3 1 v n xs) (hN : New B v) (xa : Option Addr) (c : Nat) (news : List Value) (hx : a.eval x = .slice xa m c) (hl : news.length = m * 1) (hnil : xa = none → m = 0 ∧ c = 0) (hnews : ∀ ad, xa = some ad → ∀ j u, news[j]? = some u → w.cell? (ad.add j) = some u) (h1 : ∀ u ∈ news, u.oneCell' = true) (h63 : n + m ≤ maxLen) (hby : (n + m) * 8 ≤ 140737488355328) (hB : B ≤ w.heap.size)
    (h : ∀ v' w', Apd w B 3 1 v n m (xs ++ news) v' w' → wpList Try.prog ops Q rest (a.put o.dst v') w') : wpList Try.prog ops Q (o :: rest) a w := by
  have hw : Region.wanted o (yielded ops a.tmps) = true := by simp [Region.wanted, hgd]
  obtain ⟨v', w', hr, hA⟩ := apd_runI o.type h0 hN xa c news hl hnil hnews h1 h63 hby hB
  refine op_val hw v' w' ?_ (h v' w' hA)
  simp only [execOp, ho, resolve, invoke, builtin, Sem.run_bind, Sem.run_pure, Result.andThen_ok, List.map_toArray, List.map_cons, List.map_nil, hs, hx, hr]
set_option maxRecDepth 100000 in
set_option maxHeartbeats 2000000 in
theorem gints_big {w : World} {s : Sv} {l : List Int} (h : InsS w s l) (hl : l.length * 8 ≤ reachBytes) :
    Calls Try.prog 20 #[.slice s.a s.n s.c] w fun e w' => ∃ s' : Sv, e = .returned (.slice s'.a s'.n s'.c) ∧ InsS w' s' l ∧ InE (fun x => w.heap.size ≤ x ∧ x < w'.heap.size) s' ∧ Below w.heap.size w w' := by
  have hlen : l.length = s.n := h.i.len
  have h63 : 0 + l.length ≤ maxLen := by have := h.i.le; have := h.i.cap; omega
  have h8 : (0 + l.length) * 8 ≤ 140737488355328 := by rw [Nat.zero_add]; exact Nat.le_trans hl (Nat.le_of_lt reachBytes_lt)
  have hcs := h.cells
  have qnB : ∀ (w : World) (a : Option Addr) (n c n' c' : Nat), (binOp .eql 24 (.slice a n c) (.slice none n' c')).run Try.prog w = .ok (.bool a.isNone) w := fun w a n c n' c' => Lib.run_eql_slice_nil w _ _ a n c n' c' elB.und
  have qnI : ∀ (w : World) (a : Option Addr) (n c n' c' : Nat), (binOp .eql 25 (.slice a n c) (.slice none n' c')).run Try.prog w = .ok (.bool a.isNone) w := fun w a n c n' c' => Lib.run_eql_slice_nil w _ _ a n c n' c' elI.und
  have hz := h.zero
  have hby := h.i.wf
  obtain ⟨sa, sn, sc⟩ := s
  simp only at hlen hcs hz ⊢
  subst hlen
  have fin : ∀ v' w', Apd (w.alloc (.cells #[] 3)) w.heap.size 3 1 (.slice (some ⟨w.heap.size, 0, none⟩) 0 0) 0 l.length ([] ++ l.map (Value.int .i64)) v' w' →
      ∃ s' : Sv, Ending.returned v' = .returned (.slice s'.a s'.n s'.c) ∧ InsS w' s' l ∧ InE (fun x => w.heap.size ≤ x ∧ x < w'.heap.size) s' ∧ Below w.heap.size w w' := by
    intro v' w' hA
    obtain ⟨h1, h2, h3, h4, h5⟩ := hA
    rw [Nat.zero_add, List.nil_append] at h1
    obtain ⟨s', rfl, e2, e3, e4⟩ := ro_ins h1 hby h2
    refine ⟨s', rfl, e3, e4, ?_⟩
    have k0 : Stp (fun _ => False) w (w.alloc (.cells #[] 3)) := Stp.of_alloc _ _ _
    exact (k0.next h4 (F' := fun x => some w.heap.size = some x) (fun x e => .inr (by injection e with e; omega))).below (Nat.le_refl _) (fun x e => e.elim)
  have q0 : (w.alloc (.cells #[] 3)).ownsRow 0 3 1 (.slice (some ⟨w.heap.size, 0, none⟩) 0 0) 0 [] := World.ownsRow_made w #[] 0 (Nat.zero_le _) (Nat.zero_le _) rfl
  have hN : New w.heap.size (.slice (some ⟨w.heap.size, 0, none⟩) 0 0) := fun r e => by
    have : w.heap.size = r := by simpa [Value.ownBlock] using e
    omega
  have hcs' : ∀ ad, sa = some ad → ∀ j u, (l.map (Value.int .i64))[j]? = some u → (w.alloc (.cells #[] 3)).cell? (ad.add j) = some u := fun ad e j u hu => by
    have := hcs ad e j u hu
    rw [((Below.refl _ w).alloc (Nat.le_refl _) (.cells #[] 3)).cell (World.block_lt_of_cell? w _ this)]; exact this
  cases sa with
  | none =>
    obtain ⟨z1, z2, rfl⟩ := hz rfl
    subst z2
    simp only [List.length_nil] at fin hcs' ⊢
    go_enter Try.func20, Try.ntmps20
    go_wp2_with (first
      | (refine at_appI w.heap.size rfl _ _ (by rfl) (by rfl) q0 hN none 0 [] (by rfl) (by simp) (fun e => ⟨rfl, rfl⟩) (fun ad e => by cases e) (fun u hu => by cases hu) (by simp) (by simp) (by simp) ?_; intro v' w' hA; obtain ⟨s', e1, e2⟩ := fin v' w' hA; injection e1 with e1; subst e1))
    go_returns
    exact ⟨s', rfl, e2⟩
  | some ad =>
    go_enter Try.func20, Try.ntmps20
    go_wp2_with (first
      | (refine at_appI w.heap.size rfl _ _ (by rfl) (by rfl) q0 hN (some ad) sc (l.map (Value.int .i64)) (by rfl) (by simp) (fun e => by cases e) hcs' (fun u hu => by obtain ⟨x, _, rfl⟩ := List.mem_map.1 hu; rfl) h63 h8 (by simp) ?_; intro v' w' hA; obtain ⟨s', e1, e2⟩ := fin v' w' hA; injection e1 with e1; subst e1))
    go_returns
    exact ⟨s', rfl, e2⟩
theorem fewP_idem (p : Pt) : fewP (fewP p) = fewP p := by
  unfold fewP; simp [List.take_take]
theorem fewL_idem (l : List Pt) : fewL (fewL l) = fewL l := by
  unfold fewL
  rw [← List.map_take, List.take_take, List.map_map]
  exact List.map_congr_left fun p _ => fewP_idem p
theorem fewL_len (l : List Pt) : (fewL l).length ≤ 20 := by unfold fewL; simp; omega
theorem fewL_small {l : List Pt} {p : Pt} (h : p ∈ fewL l) : p.data.length ≤ 70 ∧ p.needs.length ≤ 6 := by
  unfold fewL at h
  obtain ⟨q, _, rfl⟩ := List.mem_map.1 h
  unfold fewP; simp; omega
end Go.Proofs.Yteceapdkgidenaa
namespace Go.Proofs.Yteceapdkgidenaa
open Go.ChangeShapes Go.WideShapes Go.ChangeAt Go.RowKit
set_option linter.unusedVariables false
set_option linter.unusedSimpArgs false

set_option maxRecDepth 100000 in
set_option maxHeartbeats 2000000 in
theorem same_any {w : World} {a b : Sv} {l : List Int} (ha : InsS w a l) (hb : InsS w b l) (hl : l.length ≤ 100000) :
    Calls Try.prog 54 #[.slice a.a a.n a.c, .slice b.a b.n b.c] w fun e w' => e = .returned (.bool true) ∧ Below w.heap.size w w' := by
  have h1 := ha.i.len
  have h2 := hb.i.len
  have ca := ha.i.cell
  have cb := hb.i.cell
  obtain ⟨aa, an, ac⟩ := a
  obtain ⟨ba, bn, bc⟩ := b
  simp only at h1 h2 ca cb ⊢
  subst h1; subst h2
  clear ha hb
  go_enter Try.func54, Try.ntmps54
  go_wp2
  go_loopw [5] (fun x wr => ∃ k : Nat, k ≤ l.length ∧ x = .int .i64 (k : Int) ∧ Below w.heap.size w wr) (fun x _ => l.length - (intOf x).toNat)
  case atStart => exact ⟨0, Nat.zero_le _, rfl, Below.refl _ _⟩
  case round =>
    obtain ⟨k, hk, rfl, hB⟩ := hrel
    by_cases hlt : k < l.length
    · obtain ⟨b1, o1, rfl, c1⟩ := ca (by omega)
      obtain ⟨b2, o2, rfl, c2⟩ := cb (by omega)
      have ck1 : wr.cell? ⟨b1, o1 + k, none⟩ = some (.int .i64 (l.getD k 0)) := (Stp.of_below hB (fun _ => False)).cell (c1 k hlt) id
      have ck2 : wr.cell? ⟨b2, o2 + k, none⟩ = some (.int .i64 (l.getD k 0)) := (Stp.of_below hB (fun _ => False)).cell (c2 k hlt) id
      clear c1 c2 ca cb
      generalize l.getD k 0 = y at *
      have a9 : (k : Int) < (l.length : Int) := by omega
      have a8 : (0 : Int) ≤ (k : Int) := by omega
      go_wp2
      go_region
      go_wp2
      go_roundw
      case rel => exact ⟨k + 1, by omega, by go_num, hB.drew⟩
      case measure => simp [intOf]; omega
    · have hk' : k = l.length := by omega
      subst hk'
      go_wp2
      go_returns
      exact ⟨rfl, hB⟩
theorem conv_s {w : World} {s : Sv} {l : List Int} (h : BsS w s l) : (convert 24 9 (.slice s.a s.n s.c)).run Try.prog w = .ok (.string (strOfNums l)) w :=
  Bs.convert (P := Try.prog) h 24 5 9 (by kernel_rfl) (by kernel_rfl) (by kernel_rfl)
set_option maxRecDepth 100000 in
set_option maxHeartbeats 2000000 in
theorem sameIs_any {w : World} {E E' : Nat → Prop} {p : Pt} {d n d' n' : Sv} (h : PtM w E p d n) (h' : PtM w E' p d' n') (hn : p.needs.length ≤ 100000) :
    Calls Try.prog 41 #[.agg (p.cs d n).toArray, .agg (p.cs d' n').toArray] w fun e w' => e = .returned (.bool true) ∧ Below w.heap.size w w' := by
  have t1 : True := trivial
  have t2 : True := trivial
  have t3 : True := trivial
  go_enter Try.func41, Try.ntmps41
  go_wp2_with (first
    | (clear t1; refine at_boxP (by rfl) _ (by rfl) p d n (by rfl) ?_; intro g1 w1 a1 a2 r1 b1)
    | (clear t2; refine at_boxP (by rfl) _ (by rfl) p d' n' (by rfl) ?_; intro g2 w2 a3 a4 r2 b2
       have r12 := r1.later b2
       have B2 := bnext b1 b2 (Nat.le_refl _)
       have m1 := h.later B2
       have m2 := h'.later B2
       have c1 := conv_s m1.bs
       have c2 := conv_s m2.bs
       obtain ⟨k0, k1, k2, k3, k4, k5, k6, k7, k8⟩ := Pt.cells r12
       obtain ⟨q0, q1, q2, q3, q4, q5, q6, q7, q8⟩ := Pt.cells r2
       have hS := same_any m1.is m2.is hn)
    | (go_at_call 54; clear t3; refine hS.mono ?_; rintro e w3 ⟨rfl, b3⟩
       have B3 := bnext B2 b3 (Nat.le_refl _)
       obtain ⟨_, _, _, _, _, _, x6, x7, x8⟩ := Pt.cells (r12.later b3)
       obtain ⟨_, _, _, _, _, _, y6, y7, y8⟩ := Pt.cells (r2.later b3)))
  go_returns
  exact ⟨by simp, B3⟩
set_option maxRecDepth 100000 in
set_option maxHeartbeats 2000000 in
theorem psame_any {w : World} {E E' : Nat → Prop} {p : Pt} {d n d' n' : Sv} (h : PtM w E p d n) (h' : PtM w E' p d' n') (hn : p.needs.length ≤ 100000) :
    Calls Try.prog 24 #[.agg (p.cs d n).toArray, .agg (p.cs d' n').toArray] w fun e w' => e = .returned (.int .i64 1) ∧ Below w.heap.size w w' := by
  have t1 : True := trivial
  have t2 : True := trivial
  have t3 : True := trivial
  go_enter Try.func24, Try.ntmps24
  go_wp2_with (first
    | (clear t1; refine at_boxP (by rfl) _ (by rfl) p d n (by rfl) ?_; intro g1 w1 a1 a2 r1 b1)
    | (clear t2; refine at_boxP (by rfl) _ (by rfl) p d' n' (by rfl) ?_; intro g2 w2 a3 a4 r2 b2
       have B2 := bnext b1 b2 (Nat.le_refl _)
       have r12 := r1.later b2
       have hS := sameIs_any (h.later B2) (h'.later B2) hn)
    | (clear t3; refine at_getP0 (by rfl) _ (by rfl) g1 (by rfl) p d n r12 ?_)
    | (refine at_getP0 (by rfl) _ (by rfl) g2 (by rfl) p d' n' r2 ?_)
    | (go_at_call 41; refine hS.mono ?_; rintro e w3 ⟨rfl, b3⟩))
  go_returns
  exact ⟨rfl, bnext B2 b3 (Nat.le_refl _)⟩
end Go.Proofs.Yteceapdkgidenaa
namespace Go.Proofs.Yteceapdkgidenaa
open Go.ChangeShapes Go.WideShapes Go.ChangeAt Go.RowKit
set_option linter.unusedVariables false
set_option linter.unusedSimpArgs false

/-- A slice that reads as the patches l. -/
def PsL (w : World) (s : Sv) (l : List Pt) : Prop := ∃ M, Ps w (fun x => x < w.heap.size) s M ∧ pts M = l
theorem PsL.later {w w' : World} {s : Sv} {l : List Pt} (h : PsL w s l) (k : Below w.heap.size w w') : PsL w' s l := by
  obtain ⟨M, h1, h2⟩ := h
  exact ⟨M, (h1.later k).mono (fun x hx => Nat.lt_of_lt_of_le hx k.size), h2⟩
theorem PsL.len {w : World} {s : Sv} {l : List Pt} (h : PsL w s l) : s.n = l.length := by
  obtain ⟨M, h1, h2⟩ := h
  rw [← h2, ← h1.len]; unfold pts; simp
theorem PsL.le {w : World} {s : Sv} {l : List Pt} (h : PsL w s l) : s.n ≤ 9223372036854775807 := by
  obtain ⟨M, h1, h2⟩ := h
  have := h1.le; have := h1.cap; unfold maxLen at this; omega
/-- The patch at i. -/
theorem PsL.at {w : World} {s : Sv} {l : List Pt} (h : PsL w s l) (i : Nat) (p : Pt) (hi : l[i]? = some p) : ∃ b o d n, s.a = some ⟨b, o, none⟩ ∧ w.rangeAt b (o + i * 9) (⟨p, d, n⟩ : Pe).cs ∧ PtM w (fun x => x < w.heap.size) p d n ∧ p.wfp := by
  obtain ⟨M, h1, h2⟩ := h
  subst h2
  unfold pts at hi
  rw [List.getElem?_map] at hi
  cases hM : M[i]? with
  | none => rw [hM] at hi; cases hi
  | some T =>
    rw [hM] at hi
    simp only [Option.map_some, Option.some.injEq] at hi
    subst hi
    have hlt := (List.getElem?_eq_some_iff.1 hM).1
    obtain ⟨b, o, e, _, hc⟩ := h1.cell (by have := h1.len; omega)
    have hm := List.mem_of_getElem? hM
    exact ⟨b, o, T.d, T.n, e, hc i T hM, h1.ms T hm, h1.wf T hm⟩
theorem FwI.psL {w w' : World} {v : Value} {M : List Pe} (h : FwI w w' v M) : ∃ s : Sv, v = .slice s.a s.n s.c ∧ PsL w' s (pts M) ∧ Below w.heap.size w w' := by
  obtain ⟨s, h1, _, h3⟩ := h.ps
  exact ⟨s, h1, ⟨M, h3.mono (fun x hx => hx.2), rfl⟩, h.pu.b⟩
theorem few_L {w : World} {s : Sv} {l : List Pt} (h : PsL w s l) :
    Calls Try.prog 16 #[.slice s.a s.n s.c] w fun e w' => ∃ s' : Sv, e = .returned (.slice s'.a s'.n s'.c) ∧ PsL w' s' (fewL l) ∧ Below w.heap.size w w' := by
  obtain ⟨M, h1, rfl⟩ := h
  refine (few15_any h1).mono ?_
  rintro e w' ⟨v, M', rfl, h3, h4⟩
  obtain ⟨s', rfl, h5, h6⟩ := h3.psL
  exact ⟨s', rfl, by rw [← h4]; exact h5, h6⟩
theorem now_L {w : World} {s : Sv} {l : List Pt} (h : PsL w s l) (b : Blk) :
    Calls Try.prog 17 #[.agg b.cs.toArray, .slice s.a s.n s.c] w fun e w' => e = .returned (.tuple #[.agg (nwB b l).cs.toArray, .int .i64 (nwE l)]) ∧ Below w.heap.size w w' := by
  obtain ⟨M, h1, rfl⟩ := h
  exact now_any h1 b (fun x hx => hx)
theorem rnow_L {w : World} {s : Sv} {l : List Pt} (h : PsL w s l) (b : Blk) :
    Calls Try.prog 18 #[.agg b.cs.toArray, .slice s.a s.n s.c] w fun e w' => e = .returned (.tuple #[.agg (nwB b l).cs.toArray, .int .i64 (nwE l)]) ∧ Below w.heap.size w w' := by
  obtain ⟨M, h1, rfl⟩ := h
  exact rrnow_any h1 b
theorem some_L {w : World} {s n : Sv} {l : List Pt} {ids : List Int} (h : PsL w s l) (hn : InsS w n ids) (b : Blk) :
    Calls Try.prog 19 #[.agg b.cs.toArray, .slice s.a s.n s.c, .slice n.a n.n n.c] w fun e w' => e = .returned (.tuple #[.agg (nwB b (smP l ids)).cs.toArray, .int .i64 (nwE (smP l ids))]) ∧ Below w.heap.size w w' := by
  obtain ⟨M, h1, rfl⟩ := h
  exact some_any h1 hn b (fun x hx => hx)
theorem rsome_L {w : World} {s n : Sv} {l : List Pt} {ids : List Int} (h : PsL w s l) (hn : InsS w n ids) (b : Blk) (hl : l.length ≤ 20) :
    Calls Try.prog 21 #[.agg b.cs.toArray, .slice s.a s.n s.c, .slice n.a n.n n.c] w fun e w' => e = .returned (.tuple #[.agg (nwB b (smP l ids)).cs.toArray, .int .i64 (nwE (smP l ids))]) ∧ Below w.heap.size w w' := by
  obtain ⟨M, h1, rfl⟩ := h
  exact rrsome_any h1 hn b (fun x hx => hx) (by rw [pts_len'] at hl; omega)
theorem without_L {w : World} {s n : Sv} {l : List Pt} {ids : List Int} (h : PsL w s l) (hn : InsS w n ids) (hl : l.length ≤ 20) (hs : ∀ p ∈ l, p.data.length ≤ 70 ∧ p.needs.length ≤ 6) :
    Calls Try.prog 22 #[.slice s.a s.n s.c, .slice n.a n.n n.c] w fun e w' => ∃ s' : Sv, e = .returned (.slice s'.a s'.n s'.c) ∧ PsL w' s' (woP l ids) ∧ Below w.heap.size w w' := by
  obtain ⟨M, h1, rfl⟩ := h
  refine (without_any h1 hn (by rw [pts_len'] at hl; omega) (fun t ht => ?_)).mono ?_
  · have := hs t.p (List.mem_map.2 ⟨t, ht, rfl⟩); omega
  rintro e w' ⟨v, M', rfl, h3, h4⟩
  obtain ⟨s', rfl, h5, h6⟩ := h3.psL
  rw [h4] at h5
  exact ⟨s', rfl, h5, h6⟩
theorem rwithout_L {w : World} {s n : Sv} {l : List Pt} {ids : List Int} (h : PsL w s l) (hn : InsS w n ids) (hl : l.length ≤ 20) :
    Calls Try.prog 23 #[.slice s.a s.n s.c, .slice n.a n.n n.c] w fun e w' => ∃ s' : Sv, e = .returned (.slice s'.a s'.n s'.c) ∧ PsL w' s' (woP l ids) ∧ Below w.heap.size w w' := by
  obtain ⟨M, h1, rfl⟩ := h
  refine (rrwithout_any h1 hn (by rw [pts_len'] at hl; omega)).mono ?_
  rintro e w' ⟨v, rfl, h3⟩
  obtain ⟨s', rfl, _, h5⟩ := h3.ps (fun t ht => h1.wf t (List.mem_filter.1 ht).1) (fun t ht => ((h1.ms t (List.mem_filter.1 ht).1).later h3.b).mono (fun x hx => Nat.lt_of_lt_of_le hx h3.b.size))
  exact ⟨s', rfl, ⟨_, h5, pts_filter M (fun p => !hsI ids p.id)⟩, h3.b⟩
end Go.Proofs.Yteceapdkgidenaa
