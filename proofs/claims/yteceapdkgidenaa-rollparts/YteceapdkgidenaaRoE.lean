/-
  Slices of patches that are read, and what each and over of layer 15 do: no statement is proved here.
-/
import Derived.Test.YteceapdkgidenaaRoD
namespace Go.Proofs.Yteceapdkgidenaa
open Go.ChangeShapes Go.WideShapes Go.ChangeAt Go.RowKit
set_option linter.unusedVariables false
set_option linter.unusedSimpArgs false

/-- A slice that reads as the patches L; what it holds lies in E. -/
structure Ps (w : World) (E : Nat → Prop) (s : Sv) (L : List Pe) : Prop where
  len : L.length = s.n
  le : s.n ≤ s.c
  cap : s.c ≤ maxLen
  nil : s.a = none → s.c = 0
  cell : 0 < s.n → ∃ b o, s.a = some ⟨b, o, none⟩ ∧ E b ∧ ∀ i (t : Pe), L[i]? = some t → w.rangeAt b (o + i * 9) t.cs
  wf : ∀ t ∈ L, t.p.wfp
  ms : ∀ t ∈ L, PtM w E t.p t.d t.n
theorem Ps.step {w w' : World} {E F : Nat → Prop} {s : Sv} {L : List Pe} (h : Ps w E s L) (k : Stp F w w') (hE : ∀ x, E x → ¬ F x) : Ps w' E s L :=
  ⟨h.len, h.le, h.cap, h.nil, fun hn => by
    obtain ⟨b, o, e, hb, hc⟩ := h.cell hn
    exact ⟨b, o, e, hb, fun i t ht => k.range (hc i t ht) (hE b hb)⟩, h.wf, fun t ht => (h.ms t ht).step k hE⟩
theorem Ps.later {w w' : World} {E : Nat → Prop} {s : Sv} {L : List Pe} (h : Ps w E s L) (k : Below w.heap.size w w') : Ps w' E s L := h.step (Stp.of_below k (fun _ => False)) (fun _ _ => id)
theorem Ps.mono {w : World} {E E' : Nat → Prop} {s : Sv} {L : List Pe} (h : Ps w E s L) (k : ∀ x, E x → E' x) : Ps w E' s L :=
  ⟨h.len, h.le, h.cap, h.nil, fun hn => by
    obtain ⟨b, o, e, hb, hc⟩ := h.cell hn
    exact ⟨b, o, e, k b hb, hc⟩, h.wf, fun t ht => (h.ms t ht).mono k⟩
theorem Ps.nilS (w : World) (E : Nat → Prop) : Ps w E Sv.nil [] :=
  ⟨rfl, Nat.le_refl _, Nat.zero_le _, fun _ => rfl, fun h => absurd h (by decide), (fun t ht => by cases ht), (fun t ht => by cases ht)⟩
/-- The patches themselves. -/
def pts (L : List Pe) : List Pt := L.map (·.p)
set_option maxRecDepth 100000 in
set_option maxHeartbeats 2000000 in
theorem over1_any {w : World} (b : Blk) (p : Pt) (d n : Sv) (t gn gt : Nat) (hp : p.wfp) (hd : BsS w d p.data) (ht : t < 4294967296) (hr : Row w gn b.l) (hc : w.cell? ⟨gt, 0, none⟩ = some (.int .u32 (t : Int))) :
    Calls Try.prog 50 #[.agg (p.cs d n).toArray, .pointer (some ⟨gn, 0, none⟩), .pointer (some ⟨gt, 0, none⟩)] w fun e w' => e = .returned (.int .i64 (lyE p)) ∧ Row w' gn (lyB b p t).l ∧ Stp (fun x => x = gn) w w' := by
  have hb := b.len
  have hR := (lyB b p t).len
  have H := fun u h => rlay_any (w := u) b p d n t hp h ht
  generalize lyB b p t = R at *
  generalize lyE p = e0 at *
  have t1 : True := trivial
  go_enter Try.func50, Try.ntmps50
  go_wp2_with (first
    | (refine at_boxP (by rfl) _ (by rfl) p d n (by rfl) ?_; intro g1 w1 a1 z1 r1 b1
       have x1 := hr.later b1
       have c1 : w1.cell? ⟨gt, 0, none⟩ = some (.int .u32 (t : Int)) := by rw [b1.cell (World.block_lt_of_cell? w _ hc)]; exact hc)
    | (refine at_get 23 64 arrB (by rfl) _ (by rfl) gn (by rfl) _ x1 hb ?_)
    | (refine at_getP0 (by rfl) _ (by rfl) g1 (by rfl) p d n r1 ?_)
    | (go_at_call 9; refine (H _ (hd.later b1)).mono ?_; rintro e w2 ⟨rfl, b2⟩; clear c1)
    | (refine at_put 23 64 arrB (by rfl) _ _ (by rfl) gn (by rfl) R.l (by rfl) hR _ (x1.later b2) hb ?_; intro w3 r3 s3))
  go_returns
  exact ⟨rfl, r3, (Stp.of_below (bnext b1 b2 (Nat.le_refl _)) (fun x => x = gn)).trans s3⟩
/-- A function value that tells of a patch. -/
def TellsR (w : World) (F : Nat → Prop) (fi : FuncId) (lb : Array Value) (q : Pt → Bool) : Prop :=
  ∀ (u : World) (p : Pt) (d n : Sv), Stp F w u → p.wfp → Calls Try.prog fi (#[.agg (p.cs d n).toArray] ++ lb) u fun e u' => e = .returned (.bool (q p)) ∧ Below u.heap.size u u'
theorem flt_stepP {l : List Pt} {k : Nat} {p : Pt} (h : l[k]? = some p) (q : Pt → Bool) : (l.take (k + 1)).filter q = (l.take k).filter q ++ (if q p = true then [p] else []) := by
  rw [List.take_add_one, h, List.filter_append]
  congr 1
  simp [List.filter_cons]
/-- A sector at g; this one, if there is no error. -/
def RowX (w : World) (g : Nat) (e : Int) (R : Blk) : Prop := ∃ x : Blk, Row w g x.l ∧ (e = 0 → x = R)
/-- Part way. -/
structure EaI (w : World) (gn t : Nat) (b : Blk) (l : List Pt) (q : Pt → Bool) (k : Nat) (wr : World) : Prop where
  s : Stp (fun x => x = gn) w wr
  ok : ((l.take k).filter q).all rfit = true
  r : Row wr gn (ovB t b ((l.take k).filter q)).l
set_option maxRecDepth 100000 in
set_option maxHeartbeats 4000000 in
theorem each_any {w : World} {E : Nat → Prop} {s : Sv} {L : List Pe} (H : Ps w E s L) (fi : FuncId) (lb : Array Value) (q : Pt → Bool) (b : Blk) (t gn gt : Nat) (hq : TellsR w (fun x => x = gn) fi lb q) (eg : ∀ args w, (callFunc fi args).run Try.prog w = .ok (.enter fi args) w)
    (ht : t < 4294967296) (hr : Row w gn b.l) (hc : w.cell? ⟨gt, 0, none⟩ = some (.int .u32 (t : Int))) (hE : ∀ x, E x → x ≠ gn) (hgt : gt ≠ gn) :
    Calls Try.prog 49 #[.slice s.a s.n s.c, .func (.func fi) #[] lb, .func (.func 50) #[] #[.pointer (some ⟨gn, 0, none⟩), .pointer (some ⟨gt, 0, none⟩)]] w fun e w' => e = .returned (.int .i64 (nwE ((pts L).filter q))) ∧ RowX w' gn (nwE ((pts L).filter q)) (ovB t b ((pts L).filter q)) ∧ Stp (fun x => x = gn) w w' := by
  have hcap : s.n ≤ 9223372036854775807 := by have := H.le; have := H.cap; unfold maxLen at this; omega
  have hlen := H.len
  obtain ⟨sa, sn, sc⟩ := s
  simp only at hcap hlen
  subst hlen
  have hlp : (pts L).length = L.length := by unfold pts; simp
  go_enter Try.func49, Try.ntmps49
  go_wp2_with fail
  go_loopw [12] (fun v wr => ∃ k : Nat, k ≤ L.length ∧ v = .int .i64 (k : Int) ∧ EaI w gn t b (pts L) q k wr) (fun v _ => L.length - (intOf v).toNat)
  case atStart => exact ⟨0, Nat.zero_le _, rfl, Stp.refl _ _, rfl, hr⟩
  case round =>
    obtain ⟨k, hk, rfl, I⟩ := hrel
    have Hr := H.step I.s hE
    by_cases hkl : k < L.length
    · have a9 : (k : Int) < (L.length : Int) := by omega
      obtain ⟨bb, o, e0, hbE, hcell⟩ := Hr.cell (by simpa using (by omega : 0 < L.length))
      simp only at e0
      subst e0
      obtain ⟨T, hT⟩ : ∃ T, L[k]? = some T := ⟨L[k], List.getElem?_eq_getElem hkl⟩
      have hrg := hcell k T hT
      have hmem := List.mem_of_getElem? hT
      have hwf := H.wf T hmem
      have hPM := Hr.ms T hmem
      have hst := flt_stepP (l := pts L) (k := k) (p := T.p) (by unfold pts; rw [List.getElem?_map, hT]; rfl) q
      clear hcell hbE
      have t1 : True := trivial
      have t2 : True := trivial
      go_wp2_with (first
        | (clear t1; refine at_getE _ (by rfl) (by rfl) bb (o + k * 9) (by rfl) T hrg ?_)
        | (clear t2; refine at_newP (by rfl) (by rfl) ?_; intro g5 w5 a5 z5 r5 b5)
        | (refine at_putP (by rfl) _ _ (by rfl) g5 (by rfl) T.p T.d T.n (by rfl) _ r5 rfl ?_; intro w6 r6 s6)
        | (refine at_getP0 (by rfl) _ (by rfl) g5 (by rfl) T.p T.d T.n r6 ?_))
      have S6 : Stp (fun x => x = gn) wr w6 := (Stp.of_below b5 (fun x => x = gn)).next s6 (fun x e => .inr (by omega))
      have B6 : Below wr.heap.size wr w6 := ((Stp.of_below b5 (fun _ => False)).next s6 (fun x e => .inr (by omega))).below (Nat.le_refl _) (fun x e => e.elim)
      refine (hq w6 T.p T.d T.n (I.s.trans S6) hwf).mono ?_
      rintro e w7 ⟨rfl, b7⟩
      have r7 := r6.later b7
      have B7 := bnext B6 b7 (Nat.le_refl _)
      have x7 := I.r.later B7
      have c7 : w7.cell? ⟨gt, 0, none⟩ = some (.int .u32 (t : Int)) := by
        have h1 := I.s.cell hc hgt
        rw [B7.cell (World.block_lt_of_cell? wr _ h1)]; exact h1
      have d7 := hPM.bs.later B7
      have I7 : Stp (fun x => x = gn) w w7 := I.s.trans (Stp.of_below B7 _)
      clear b5 s6 r6 r5 S6 B6 b7 a5 z5 hrg hPM
      cases hqt : q T.p with
      | false =>
        rw [hqt] at hst
        simp only [Bool.false_eq_true, if_false, List.append_nil] at hst
        go_wp2_with fail
        go_roundw
        case rel => exact ⟨k + 1, by omega, by go_num, I7, by rw [hst]; exact I.ok, by rw [hst]; exact x7⟩
        case measure => simp [intOf]; omega
      | true =>
        rw [hqt] at hst
        simp only [if_true] at hst
        have HO := over1_any (ovB t b (((pts L).take k).filter q)) T.p T.d T.n t gn gt hwf d7 ht x7 c7
        cases hft : rfit T.p with
        | true =>
          have hE0 : lyE T.p = 0 := by unfold lyE; rw [if_pos hft]
          rw [hE0] at HO
          go_wp2_with (first
            | (refine at_getP0 (by rfl) _ (by rfl) g5 (by rfl) T.p T.d T.n r7 ?_)
            | (go_at_call 50; refine HO.mono ?_; rintro e w8 ⟨rfl, r8, s8⟩))
          go_roundw
          case rel =>
            refine ⟨k + 1, by omega, by go_num, I7.trans s8, ?_, ?_⟩
            · rw [hst, List.all_append, I.ok]; simp [hft]
            · rw [hst, ovB_append]; exact r8
          case measure => simp [intOf]; omega
        | false =>
          have hE0 : lyE T.p = 2 := by unfold lyE; rw [hft]; rfl
          rw [hE0] at HO
          have hN : Hid (nwE ((pts L).filter q) = 2) := by
            show _ = _
            unfold nwE
            rw [if_neg]
            intro ha
            have := List.all_eq_true.1 ha T.p (List.mem_filter.2 ⟨List.mem_map.2 ⟨T, hmem, rfl⟩, hqt⟩)
            rw [hft] at this; cases this
          go_wp2_with (first
            | (refine at_getP0 (by rfl) _ (by rfl) g5 (by rfl) T.p T.d T.n r7 ?_)
            | (go_at_call 50; refine HO.mono ?_; rintro e w8 ⟨rfl, r8, s8⟩))
          go_returns
          rw [hN.out]
          exact ⟨rfl, ⟨_, r8, fun h => by cases h⟩, I7.trans s8⟩
    · have a9 : ¬ (k : Int) < (L.length : Int) := by omega
      have e1 : (pts L).take k = pts L := List.take_of_length_le (by omega)
      have hok := I.ok
      have hr2 := I.r
      rw [e1] at hok hr2
      have hN : Hid (nwE ((pts L).filter q) = 0) := by show _ = _; unfold nwE; rw [if_pos hok]
      go_wp2_with fail
      go_returns
      rw [hN.out]
      exact ⟨rfl, ⟨_, hr2, fun _ => rfl⟩, I.s⟩
end Go.Proofs.Yteceapdkgidenaa
