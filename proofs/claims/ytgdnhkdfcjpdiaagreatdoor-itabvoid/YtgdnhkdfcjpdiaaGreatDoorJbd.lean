/-
  Texts of my own, joined: no statement is proved here.
-/
import Derived.Deep.RegionLaw
import Derived.OpenShut
import Derived.Lib.Walk
import Derived.SizedLaws
import Derived.RangeFuncNested
import Derived.RangeFuncBound
import Derived.RangeFuncCalls
import Derived.RangeFuncLeaves
import Derived.RangeFuncWrites
import Derived.Shelf.Abstract
import Derived.Shelf.RegionOpen
import Derived.OwnWalkIn
import Derived.TacticsInMore
import Derived.LoopNIn
import Derived.LoopIn
import Derived.Test.YtgdnhkdfcjpdiaaGreatDoorJba
import Derived.Test.YtgdnhkdfcjpdiaaGreatDoorJbc
set_option linter.unusedSimpArgs false
set_option linter.unusedVariables false
namespace Go.Proofs.YtgdnhkdfcjpdiaaGreatDoor
open Go.ChangeShapes Go.WideShapes Go.ChangeAt Go.RowKit
set_option maxRecDepth 100000
set_option maxRecDepth 100000 in
set_option maxHeartbeats 2000000 in
theorem over1_any {w : World} (b : Blk) (p : Pt) (d n : Sv) (t gn gt : Nat) (hp : p.wfp) (hd : BsS w d p.data) (ht : t < 4294967296) (hr : Row w gn b.l) (hc : w.cell? ⟨gt, 0, none⟩ = some (.int .u32 (t : Int))) :
    Calls Tryz.prog 122 #[.agg (p.cs d n).toArray, .pointer (some ⟨gn, 0, none⟩), .pointer (some ⟨gt, 0, none⟩)] w fun e w' => e = .returned (.int .i64 (lyE p)) ∧ Row w' gn (lyB b p t).l ∧ Stp (fun x => x = gn) w w' := by
  have hb := b.len
  have hR := (lyB b p t).len
  have H := fun u h => rlay_any (w := u) b p d n t hp h ht
  generalize lyB b p t = R at *
  generalize lyE p = e0 at *
  have t1 : True := trivial
  go_enter Tryz.func122, Tryz.ntmps122
  go_wp2_with (first
    | (refine at_boxP (by rfl) _ (by rfl) p d n (by rfl) ?_; intro g1 w1 a1 z1 r1 b1
       have x1 := hr.later b1
       have c1 : w1.cell? ⟨gt, 0, none⟩ = some (.int .u32 (t : Int)) := by rw [b1.cell (World.block_lt_of_cell? w _ hc)]; exact hc)
    | (refine at_get 88 64 arrB (by rfl) _ (by rfl) gn (by rfl) _ x1 hb ?_)
    | (refine at_getP0 (by rfl) _ (by rfl) g1 (by rfl) p d n r1 ?_)
    | (go_at_call 123; refine (H _ (hd.later b1)).mono ?_; rintro e w2 ⟨rfl, b2⟩; clear c1)
    | (refine at_put 88 64 arrB (by rfl) _ _ (by rfl) gn (by rfl) R.l (by rfl) hR _ (x1.later b2) hb ?_; intro w3 r3 s3))
  go_returns
  exact ⟨rfl, r3, (Stp.of_below (bnext b1 b2 (Nat.le_refl _)) (fun x => x = gn)).trans s3⟩
def TellsR (w : World) (F : Nat → Prop) (fi : FuncId) (lb : Array Value) (q : Pt → Bool) : Prop :=
  ∀ (u : World) (p : Pt) (d n : Sv), Stp F w u → p.wfp → Calls Tryz.prog fi (#[.agg (p.cs d n).toArray] ++ lb) u fun e u' => e = .returned (.bool (q p)) ∧ Below u.heap.size u u'
theorem flt_stepP {l : List Pt} {k : Nat} {p : Pt} (h : l[k]? = some p) (q : Pt → Bool) : (l.take (k + 1)).filter q = (l.take k).filter q ++ (if q p = true then [p] else []) := by
  rw [List.take_add_one, h, List.filter_append]
  congr 1
  simp [List.filter_cons]
def RowX (w : World) (g : Nat) (e : Int) (R : Blk) : Prop := ∃ x : Blk, Row w g x.l ∧ (e = 0 → x = R)
structure EaI (w : World) (gn t : Nat) (b : Blk) (l : List Pt) (q : Pt → Bool) (k : Nat) (wr : World) : Prop where
  s : Stp (fun x => x = gn) w wr
  ok : ((l.take k).filter q).all rfit = true
  r : Row wr gn (ovB t b ((l.take k).filter q)).l
set_option maxRecDepth 100000 in
set_option maxHeartbeats 4000000 in
theorem each_any {w : World} {E : Nat → Prop} {s : Sv} {L : List Pe} (H : Ps w E s L) (fi : FuncId) (lb : Array Value) (q : Pt → Bool) (b : Blk) (t gn gt : Nat) (hq : TellsR w (fun x => x = gn) fi lb q) (eg : ∀ args w, (callFunc fi args).run Tryz.prog w = .ok (.enter fi args) w)
    (ht : t < 4294967296) (hr : Row w gn b.l) (hc : w.cell? ⟨gt, 0, none⟩ = some (.int .u32 (t : Int))) (hE : ∀ x, E x → x ≠ gn) (hgt : gt ≠ gn) :
    Calls Tryz.prog 121 #[.slice s.a s.n s.c, .func (.func fi) #[] lb, .func (.func 122) #[] #[.pointer (some ⟨gn, 0, none⟩), .pointer (some ⟨gt, 0, none⟩)]] w fun e w' => e = .returned (.int .i64 (nwE ((pts L).filter q))) ∧ RowX w' gn (nwE ((pts L).filter q)) (ovB t b ((pts L).filter q)) ∧ Stp (fun x => x = gn) w w' := by
  have hcap : s.n ≤ 9223372036854775807 := by have := H.le; have := H.cap; unfold maxLen at this; omega
  have hlen := H.len
  obtain ⟨sa, sn, sc⟩ := s
  simp only at hcap hlen
  subst hlen
  have hlp : (pts L).length = L.length := by unfold pts; simp
  go_enter Tryz.func121, Tryz.ntmps121
  go_wp2_with fail
  go_loopw [12] (fun v wr => ∃ k : Nat, k ≤ L.length ∧ v = .int .i64 (k : Int) ∧ EaI w gn t b (pts L) q k wr) (fun v _ => L.length - (intOf v).toNat)
  case atStart => exact ⟨0, Nat.zero_le _, rfl, Stp.refl _ _, rfl, hr⟩
  case round =>
    obtain ⟨k, hk, rfl, I⟩ := hrel
    have Hr := H.step I.s hE
    by_cases hkl : k < L.length
    · have a9 : (k : Int) < (L.length : Int) := by omega
      obtain ⟨bb, o, e0, hbE, hcell⟩ := Hr.cell (by simpa using (by omega : 0 < L.length))
      simp only at e0
      subst e0
      obtain ⟨T, hT⟩ : ∃ T, L[k]? = some T := ⟨L[k], List.getElem?_eq_getElem hkl⟩
      have hrg := hcell k T hT
      have hmem := List.mem_of_getElem? hT
      have hwf := H.wf T hmem
      have hPM := Hr.ms T hmem
      have hst := flt_stepP (l := pts L) (k := k) (p := T.p) (by unfold pts; rw [List.getElem?_map, hT]; rfl) q
      clear hcell hbE
      have t1 : True := trivial
      have t2 : True := trivial
      go_wp2_with (first
        | (clear t1; refine at_getE _ (by rfl) (by rfl) bb (o + k * 9) (by rfl) T hrg ?_)
        | (clear t2; refine at_newP (by rfl) (by rfl) ?_; intro g5 w5 a5 z5 r5 b5)
        | (refine at_putP (by rfl) _ _ (by rfl) g5 (by rfl) T.p T.d T.n (by rfl) _ r5 rfl ?_; intro w6 r6 s6)
        | (refine at_getP0 (by rfl) _ (by rfl) g5 (by rfl) T.p T.d T.n r6 ?_))
      have S6 : Stp (fun x => x = gn) wr w6 := (Stp.of_below b5 (fun x => x = gn)).next s6 (fun x e => .inr (by omega))
      have B6 : Below wr.heap.size wr w6 := ((Stp.of_below b5 (fun _ => False)).next s6 (fun x e => .inr (by omega))).below (Nat.le_refl _) (fun x e => e.elim)
      refine (hq w6 T.p T.d T.n (I.s.trans S6) hwf).mono ?_
      rintro e w7 ⟨rfl, b7⟩
      have r7 := r6.later b7
      have B7 := bnext B6 b7 (Nat.le_refl _)
      have x7 := I.r.later B7
      have c7 : w7.cell? ⟨gt, 0, none⟩ = some (.int .u32 (t : Int)) := by
        have h1 := I.s.cell hc hgt
        rw [B7.cell (World.block_lt_of_cell? wr _ h1)]; exact h1
      have d7 := hPM.bs.later B7
      have I7 : Stp (fun x => x = gn) w w7 := I.s.trans (Stp.of_below B7 _)
      clear b5 s6 r6 r5 S6 B6 b7 a5 z5 hrg hPM
      cases hqt : q T.p with
      | false =>
        rw [hqt] at hst
        simp only [Bool.false_eq_true, if_false, List.append_nil] at hst
        go_wp2_with fail
        go_roundw
        case rel => exact ⟨k + 1, by omega, by go_num, I7, by rw [hst]; exact I.ok, by rw [hst]; exact x7⟩
        case measure => simp [intOf]; omega
      | true =>
        rw [hqt] at hst
        simp only [if_true] at hst
        have HO := over1_any (ovB t b (((pts L).take k).filter q)) T.p T.d T.n t gn gt hwf d7 ht x7 c7
        cases hft : rfit T.p with
        | true =>
          have hE0 : lyE T.p = 0 := by unfold lyE; rw [if_pos hft]
          rw [hE0] at HO
          go_wp2_with (first
            | (refine at_getP0 (by rfl) _ (by rfl) g5 (by rfl) T.p T.d T.n r7 ?_)
            | (go_at_call 122; refine HO.mono ?_; rintro e w8 ⟨rfl, r8, s8⟩))
          go_roundw
          case rel =>
            refine ⟨k + 1, by omega, by go_num, I7.trans s8, ?_, ?_⟩
            · rw [hst, List.all_append, I.ok]; simp [hft]
            · rw [hst, ovB_append]; exact r8
          case measure => simp [intOf]; omega
        | false =>
          have hE0 : lyE T.p = 2 := by unfold lyE; rw [hft]; rfl
          rw [hE0] at HO
          have hN : Hid (nwE ((pts L).filter q) = 2) := by
            show _ = _
            unfold nwE
            rw [if_neg]
            intro ha
            have := List.all_eq_true.1 ha T.p (List.mem_filter.2 ⟨List.mem_map.2 ⟨T, hmem, rfl⟩, hqt⟩)
            rw [hft] at this; cases this
          go_wp2_with (first
            | (refine at_getP0 (by rfl) _ (by rfl) g5 (by rfl) T.p T.d T.n r7 ?_)
            | (go_at_call 122; refine HO.mono ?_; rintro e w8 ⟨rfl, r8, s8⟩))
          go_returns
          rw [hN.out]
          exact ⟨rfl, ⟨_, r8, fun h => by cases h⟩, I7.trans s8⟩
    · have a9 : ¬ (k : Int) < (L.length : Int) := by omega
      have e1 : (pts L).take k = pts L := List.take_of_length_le (by omega)
      have hok := I.ok
      have hr2 := I.r
      rw [e1] at hok hr2
      have hN : Hid (nwE ((pts L).filter q) = 0) := by show _ = _; unfold nwE; rw [if_pos hok]
      go_wp2_with fail
      go_returns
      rw [hN.out]
      exact ⟨rfl, ⟨_, hr2, fun _ => rfl⟩, I.s⟩
set_option maxRecDepth 100000
section
variable {ops : Array Oper} {o : Oper} {a : Act} {w : World} {K : Act → World → Prop} {Q : Exit → Act → World → Prop} {R : Prop}
theorem step_newU (hgd : o.guard = none) (ho : o.op = .alloc 22)
    (h : ∀ g w', w.heap.size ≤ g → g < w'.heap.size → Cs w' g [.int .u32 0] → Below w.heap.size w w' → K (a.put o.dst (.pointer (some ⟨g, 0, none⟩))) w') : if Region.wanted o (yielded ops a.tmps) = true then Oper.wp Tryz.prog o a w K Q else R := by
  have hw : Region.wanted o (yielded ops a.tmps) = true := by simp [Region.wanted, hgd]
  rw [if_pos hw]
  have hz : (zeroValue 22).run Tryz.prog w = .ok (.int .u32 0) w := by kernel_rfl
  have hi : (Instr.alloc 22 true (.tuple #[])).run Tryz.prog w = .ok (.pointer (some ⟨w.heap.size, 0, none⟩)) (w.alloc (.cells [Value.int .u32 0].toArray 22)) := by
    unfold Instr.alloc; rw [Sem.run_bind, hz]; rfl
  have hr : (execOp a.eval o).run Tryz.prog w = .ok (.value (.pointer (some ⟨w.heap.size, 0, none⟩))) (w.alloc (.cells [Value.int .u32 0].toArray 22)) := by
    simp only [execOp, ho, Sem.run_bind, hi]; rfl
  unfold Oper.wp
  rw [hr]
  exact h w.heap.size _ (Nat.le_refl _) (by simp) (Cs.made _ _ _ (by simp [Value.oneCell'])) ((Below.refl _ _).alloc (Nat.le_refl _) _)
end
theorem storeU {w : World} {g : Nat} {v x : Value} {t : Nat} (h : Cs w g [v]) : (storeVar 22 ⟨g, 0, none⟩ (.int .u32 (t : Int))).run Tryz.prog w = .ok () (w.setCell ⟨g, 0, none⟩ (.int .u32 (t : Int))) := by
  have h1 := h.cell 0 _ rfl
  have h2 := h.frozen 0
  go_simp
theorem Cs.stp {w : World} {g : Nat} {cs : List Value} (h : Cs w g cs) (i : Nat) (x : Value) : Stp (fun y => y = g) w (w.setCell ⟨g, i, none⟩ x) := (Stp.refl (fun y => y = g) w).setCell (p := ⟨g, i, none⟩) (.inl rfl) x
theorem rowNe {w : World} {g g' : Nat} {l : List UInt8} {v : Value} (h : Row w g l) (h' : Cs w g' [v]) (hl : l.length ≠ 1) : g ≠ g' := fun e => by
  subst e
  obtain ⟨t9, h9⟩ := h'.here
  obtain ⟨t8, h8⟩ := h
  rw [h9] at h8
  injection h8 with h8
  injection h8 with h8 _ _
  have := congrArg Array.size h8
  simp at this
  omega
theorem TellsR.mono {w w' : World} {F F' : Nat → Prop} {fi : FuncId} {lb : Array Value} {q : Pt → Bool} (h : TellsR w F fi lb q) (k : ∀ u, Stp F' w' u → Stp F w u) : TellsR w' F' fi lb q := fun u p d n hs hp => h u p d n (k u hs) hp
set_option maxRecDepth 100000 in
set_option maxHeartbeats 4000000 in
theorem over_any {w : World} {E : Nat → Prop} {s : Sv} {L : List Pe} (H : Ps w E s L) (fi : FuncId) (lb : Array Value) (q : Pt → Bool) (b : Blk) (hq : TellsR w (fun x => w.heap.size ≤ x) fi lb q) (eg : ∀ args w, (callFunc fi args).run Tryz.prog w = .ok (.enter fi args) w) (hE : ∀ x, E x → x < w.heap.size) :
    Calls Tryz.prog 87 #[.agg b.cs.toArray, .slice s.a s.n s.c, .func (.func fi) #[] lb] w fun e w' => e = .returned (.tuple #[.agg (nwB b ((pts L).filter q)).cs.toArray, .int .i64 (nwE ((pts L).filter q))]) ∧ Below w.heap.size w w' := by
  have hb := b.len
  have HT := rturn_any b
  have hlt := nT_lt b
  have hN : Hid (nwB b ((pts L).filter q) = if nwE ((pts L).filter q) = 0 then ovB (nT b) b ((pts L).filter q) else b) := by
    show _ = _
    by_cases h : nwE ((pts L).filter q) = 0
    · rw [if_pos h]; unfold nwB; rw [if_pos (nwE_of h)]
    · rw [if_neg h, nwB_else h]
  have hR := (nwB b ((pts L).filter q)).len
  generalize nwB b ((pts L).filter q) = R at *
  have HE : ∀ (u : World) (gn gt : Nat), Below w.heap.size w u → w.heap.size ≤ gn → Row u gn b.l → u.cell? ⟨gt, 0, none⟩ = some (.int .u32 ((nT b : Nat) : Int)) → gt ≠ gn → _ := fun u gn gt hb2 h1 h2 h3 h4 => each_any (H.later hb2) fi lb q b (nT b) gn gt (hq.mono fun v hv => (Stp.of_below hb2 (fun x => w.heap.size ≤ x)).next hv (fun x e => .inl (by subst e; exact h1))) eg hlt h2 h3 (fun x hx e => by have := hE x hx; omega) h4
  generalize nT b = t at *
  generalize nwE ((pts L).filter q) = e0 at *
  generalize ovB t b ((pts L).filter q) = O at *
  obtain ⟨sa, sn, sc⟩ := s
  simp only at HE
  have t1 : True := trivial
  have t2 : True := trivial
  go_enter Tryz.func87, Tryz.ntmps87
  go_wp2_with (first
    | (refine at_box 88 64 arrB (by rfl) _ (by rfl) b.l (by rfl) hb ?_; intro gb w1 a1 z1 r1 b1)
    | (clear t1; refine at_new 88 64 arrB (by rfl) (by rfl) ?_; intro gr W a2 z2 r2 b2))
  have r := r1.later b2
  have hgr : w.heap.size ≤ gr := by have := b1.size; omega
  have B2 := bnext b1 b2 (Nat.le_refl _)
  have hWs := B2.size
  clear a1 z1 a2 z2 r1 b1 b2 H hq
  refine wp_region_held_drew (S := fun u => Below W.heap.size W u) (by kernel_rfl) (Below.refl _ _).drew (fun hHeld => ?_)
  rename_i K1 hK1
  have tail : ∀ g8 g9 v, Row v g8 b.l → Cs v g9 [.int .u32 (t : Int)] → W.heap.size ≤ g8 → W.heap.size ≤ g9 → Below W.heap.size W v →
      K1 ⟨#[.agg b.cs.toArray, .slice sa sn sc, .func (.func fi) #[] lb, .pointer (some ⟨gb, 0, none⟩), undef, undef, .pointer (some ⟨gr, 0, none⟩), .int .i64 0, .pointer (some ⟨g8, 0, none⟩), .pointer (some ⟨g9, 0, none⟩), undef, .agg b.cs.toArray, .agg b.cs.toArray, .int .u32 (t : Int), undef, undef, undef, undef, undef, undef, undef, undef, undef], []⟩ v := by
    intro g8 g9 v y8 y9 m8 m9 hH
    refine hK1 _ _ ?_
    have r0lt : gb < W.heap.size := r.lt
    have r2lt : gr < W.heap.size := r2.lt
    have rb := r.later hH
    have rr := r2.later hH
    have Bv := bnext B2 hH (Nat.le_refl _)
    have hne : g9 ≠ g8 := (rowNe y8 y9 (by rw [hb]; simp)).symm
    have HE' := HE v g8 g9 Bv (by omega) y8 (y9.cell 0 _ rfl) hne
    clear HE r r2 hK1 hHeld y9 HT
    by_cases h0 : e0 = 0
    · subst h0
      have hN' : Hid (R = O) := by show _ = _; rw [hN.out, if_pos rfl]
      clear hN
      go_wp2_with (first
        | (go_at_call 121; refine HE'.mono ?_; rintro e v2 ⟨rfl, ⟨X, x2, e2⟩, s2⟩
           obtain rfl := e2 rfl
           rw [← hN'.out] at x2
           have rr2 := rr.step s2 (by omega)
           clear e2 hN')
        | (refine at_get 88 64 arrB (by rfl) _ (by rfl) g8 (by rfl) R.l x2 hR ?_)
        | (refine at_put 88 64 arrB (by rfl) _ _ (by rfl) gr (by rfl) R.l (by rfl) hR _ rr2 (by simp) ?_; intro w9 r9 s9))
      exact bodyPost_ret (retAt arrB Tryz.results87 rfl rfl r9 hR) rfl ⟨rfl, (((Stp.of_below Bv (fun x => w.heap.size ≤ x)).next s2 (fun x hx => .inl (by subst hx; omega))).next s9 (fun x hx => .inl (by subst hx; exact hgr))).below (Nat.le_refl _) (fun _ h => h)⟩
    · have hN' : R = b := by rw [hN.out, if_neg h0]
      subst hN'
      clear hN
      go_wp2_with (first
        | (go_at_call 121; refine HE'.mono ?_; rintro e v2 ⟨rfl, _, s2⟩
           have rb2 := rb.step s2 (by omega)
           have rr2 := rr.step s2 (by omega))
        | (refine at_get 88 64 arrB (by rfl) _ (by rfl) gb (by rfl) R.l rb2 hR ?_)
        | (refine at_put 88 64 arrB (by rfl) _ _ (by rfl) gr (by rfl) R.l (by rfl) hR _ rr2 (by simp) ?_; intro w9 r9 s9))
      exact bodyPost_ret (retAt arrB Tryz.results87 rfl rfl r9 hR) rfl ⟨rfl, (((Stp.of_below Bv (fun x => w.heap.size ≤ x)).next s2 (fun x hx => .inl (by subst hx; omega))).next s9 (fun x hx => .inl (by subst hx; exact hgr))).below (Nat.le_refl _) (fun _ h => h)⟩
  clear hK1
  refine tm 0 (.agg b.cs.toArray) rfl
    (yields_row 88 64 arrB (by rfl) (.tmp 3) rfl gb (by rfl) b.l hb (fun u hu => r.later hu)) ?_
  try simp only [z]
  refine tm 1 (.agg b.cs.toArray) rfl
    (yields_row 88 64 arrB (by rfl) (.tmp 3) rfl gb (by rfl) b.l hb (fun u hu => r.later hu)) ?_
  try simp only [z]
  refine wpAnyH_ready (rs := [2, 3, 4]) (by kernel_rfl) (by simp) ?_
  refine (AllReadyH.cons (o := ⟨some 13, .call { callee := Callee.value (.func 120), args := #[.tmp 12], argTypes := #[88] }, 22, _, #[⟨1, .data⟩], none⟩) rfl (fun K hK => ?_) (AllReadyH.cons (o := ⟨some 8, .alloc 88, 0, _, #[], none⟩) rfl (fun K hK => ?_) (AllReadyH.cons (o := ⟨some 9, .alloc 22, 0, _, #[], none⟩) rfl (fun K hK => ?_) AllReadyH.nil)))
  · skip
    go_simp
    refine (HT _).mono ?_
    rintro e v1 ⟨rfl, c1⟩
    try go_wp2_with fail
    try (have y3 := y3.later c1)
    try (have y4 := y4.later c1)
    refine hK.out _ _ (bnext hHeld c1 (Nat.le_refl _)) (fun hHeld => ?_)
    clear hK K
    try simp only [z]
    refine wpAnyH_ready (rs := [3, 4]) (by kernel_rfl) (by simp) ?_
    refine (AllReadyH.cons (o := ⟨some 8, .alloc 88, 0, _, #[], none⟩) rfl (fun K hK => ?_) (AllReadyH.cons (o := ⟨some 9, .alloc 22, 0, _, #[], none⟩) rfl (fun K hK => ?_) AllReadyH.nil))
    · skip
      refine step_new 88 64 arrB rfl rfl ?_
      intro g8 v3 a3 z3 y3 b3
      have m8 : W.heap.size ≤ g8 := Nat.le_trans hHeld.size a3
      try (have y4 := y4.later b3)
      refine hK.out _ _ (bnext hHeld b3 (Nat.le_refl _)) (fun hHeld => ?_)
      clear hK K
      try simp only [z]
      refine rd 4 rfl (fun K hK => ?_)
      refine step_newU rfl rfl ?_
      intro g9 v4 a4 z4 y4 b4
      have m9 : W.heap.size ≤ g9 := Nat.le_trans hHeld.size a4
      try (have y3 := y3.later b4)
      refine hK.out _ _ (bnext hHeld b4 (Nat.le_refl _)) (fun hHeld => ?_)
      clear hK K
      try simp only [z]
      refine rd 5 rfl (fun K hK => ?_)
      refine step_put 88 64 arrB rfl (.tmp 8) (.tmp 11) rfl g8 (by rfl) b.l (by rfl) hb _ y3 (by simp) ?_
      intro v5 y5 s5
      have y4 := y4.step s5 (fun e => rowNe y3 y4 (by simp) e.symm)
      refine hK.out _ _ (((Stp.of_below hHeld (fun x => W.heap.size ≤ x)).next s5 (fun x hx => .inl (by subst hx; exact m8))).below (Nat.le_refl _) (fun _ h => h)) (fun hHeld => ?_)
      clear hK K
      try simp only [Act.put]
      refine rd 6 rfl (fun K hK => ?_)
      refine step_st _ _ (.int .u32 (t : Int)) _ rfl _ _ (by rfl) (by rfl) (by rfl) (storeU (x := undef) y4) ?_
      have y6 := y4.set 0 (.int .u32 (t : Int)) rfl
      have s6 := y4.stp 0 (.int .u32 (t : Int))
      have y5 := y5.step s6 (fun e => rowNe y5 y4 (by rw [hb]; simp) e)
      refine hK.out _ _ (((Stp.of_below hHeld (fun x => W.heap.size ≤ x)).next s6 (fun x hx => .inl (by subst hx; exact m9))).below (Nat.le_refl _) (fun _ h => h)) (fun hHeld => ?_)
      clear hK K
      try simp only [Act.put]
      refine wpAnyH_done (by kernel_rfl) ?_ _
      exact tail g8 g9 _ y5 y6 m8 m9 hHeld
    · skip
      refine step_newU rfl rfl ?_
      intro g9 v4 a4 z4 y4 b4
      have m9 : W.heap.size ≤ g9 := Nat.le_trans hHeld.size a4
      try (have y3 := y3.later b4)
      refine hK.out _ _ (bnext hHeld b4 (Nat.le_refl _)) (fun hHeld => ?_)
      clear hK K
      try simp only [z]
      refine rd 3 rfl (fun K hK => ?_)
      refine step_new 88 64 arrB rfl rfl ?_
      intro g8 v3 a3 z3 y3 b3
      have m8 : W.heap.size ≤ g8 := Nat.le_trans hHeld.size a3
      try (have y4 := y4.later b3)
      refine hK.out _ _ (bnext hHeld b3 (Nat.le_refl _)) (fun hHeld => ?_)
      clear hK K
      try simp only [z]
      refine rd 5 rfl (fun K hK => ?_)
      refine step_put 88 64 arrB rfl (.tmp 8) (.tmp 11) rfl g8 (by rfl) b.l (by rfl) hb _ y3 (by simp) ?_
      intro v5 y5 s5
      have y4 := y4.step s5 (fun e => rowNe y3 y4 (by simp) e.symm)
      refine hK.out _ _ (((Stp.of_below hHeld (fun x => W.heap.size ≤ x)).next s5 (fun x hx => .inl (by subst hx; exact m8))).below (Nat.le_refl _) (fun _ h => h)) (fun hHeld => ?_)
      clear hK K
      try simp only [Act.put]
      refine rd 6 rfl (fun K hK => ?_)
      refine step_st _ _ (.int .u32 (t : Int)) _ rfl _ _ (by rfl) (by rfl) (by rfl) (storeU (x := undef) y4) ?_
      have y6 := y4.set 0 (.int .u32 (t : Int)) rfl
      have s6 := y4.stp 0 (.int .u32 (t : Int))
      have y5 := y5.step s6 (fun e => rowNe y5 y4 (by rw [hb]; simp) e)
      refine hK.out _ _ (((Stp.of_below hHeld (fun x => W.heap.size ≤ x)).next s6 (fun x hx => .inl (by subst hx; exact m9))).below (Nat.le_refl _) (fun _ h => h)) (fun hHeld => ?_)
      clear hK K
      try simp only [Act.put]
      refine wpAnyH_done (by kernel_rfl) ?_ _
      exact tail g8 g9 _ y5 y6 m8 m9 hHeld
  · skip
    refine step_new 88 64 arrB rfl rfl ?_
    intro g8 v3 a3 z3 y3 b3
    have m8 : W.heap.size ≤ g8 := Nat.le_trans hHeld.size a3
    try (have y4 := y4.later b3)
    refine hK.out _ _ (bnext hHeld b3 (Nat.le_refl _)) (fun hHeld => ?_)
    clear hK K
    try simp only [z]
    refine wpAnyH_ready (rs := [2, 4]) (by kernel_rfl) (by simp) ?_
    refine (AllReadyH.cons (o := ⟨some 13, .call { callee := Callee.value (.func 120), args := #[.tmp 12], argTypes := #[88] }, 22, _, #[⟨1, .data⟩], none⟩) rfl (fun K hK => ?_) (AllReadyH.cons (o := ⟨some 9, .alloc 22, 0, _, #[], none⟩) rfl (fun K hK => ?_) AllReadyH.nil))
    · skip
      go_simp
      refine (HT _).mono ?_
      rintro e v1 ⟨rfl, c1⟩
      try go_wp2_with fail
      try (have y3 := y3.later c1)
      try (have y4 := y4.later c1)
      refine hK.out _ _ (bnext hHeld c1 (Nat.le_refl _)) (fun hHeld => ?_)
      clear hK K
      try simp only [z]
      refine rd 4 rfl (fun K hK => ?_)
      refine step_newU rfl rfl ?_
      intro g9 v4 a4 z4 y4 b4
      have m9 : W.heap.size ≤ g9 := Nat.le_trans hHeld.size a4
      try (have y3 := y3.later b4)
      refine hK.out _ _ (bnext hHeld b4 (Nat.le_refl _)) (fun hHeld => ?_)
      clear hK K
      try simp only [z]
      refine rd 5 rfl (fun K hK => ?_)
      refine step_put 88 64 arrB rfl (.tmp 8) (.tmp 11) rfl g8 (by rfl) b.l (by rfl) hb _ y3 (by simp) ?_
      intro v5 y5 s5
      have y4 := y4.step s5 (fun e => rowNe y3 y4 (by simp) e.symm)
      refine hK.out _ _ (((Stp.of_below hHeld (fun x => W.heap.size ≤ x)).next s5 (fun x hx => .inl (by subst hx; exact m8))).below (Nat.le_refl _) (fun _ h => h)) (fun hHeld => ?_)
      clear hK K
      try simp only [Act.put]
      refine rd 6 rfl (fun K hK => ?_)
      refine step_st _ _ (.int .u32 (t : Int)) _ rfl _ _ (by rfl) (by rfl) (by rfl) (storeU (x := undef) y4) ?_
      have y6 := y4.set 0 (.int .u32 (t : Int)) rfl
      have s6 := y4.stp 0 (.int .u32 (t : Int))
      have y5 := y5.step s6 (fun e => rowNe y5 y4 (by rw [hb]; simp) e)
      refine hK.out _ _ (((Stp.of_below hHeld (fun x => W.heap.size ≤ x)).next s6 (fun x hx => .inl (by subst hx; exact m9))).below (Nat.le_refl _) (fun _ h => h)) (fun hHeld => ?_)
      clear hK K
      try simp only [Act.put]
      refine wpAnyH_done (by kernel_rfl) ?_ _
      exact tail g8 g9 _ y5 y6 m8 m9 hHeld
    · skip
      refine step_newU rfl rfl ?_
      intro g9 v4 a4 z4 y4 b4
      have m9 : W.heap.size ≤ g9 := Nat.le_trans hHeld.size a4
      try (have y3 := y3.later b4)
      refine hK.out _ _ (bnext hHeld b4 (Nat.le_refl _)) (fun hHeld => ?_)
      clear hK K
      try simp only [z]
      refine rd 2 rfl (fun K hK => ?_)
      go_simp
      refine (HT _).mono ?_
      rintro e v1 ⟨rfl, c1⟩
      try go_wp2_with fail
      try (have y3 := y3.later c1)
      try (have y4 := y4.later c1)
      refine hK.out _ _ (bnext hHeld c1 (Nat.le_refl _)) (fun hHeld => ?_)
      clear hK K
      try simp only [z]
      refine rd 5 rfl (fun K hK => ?_)
      refine step_put 88 64 arrB rfl (.tmp 8) (.tmp 11) rfl g8 (by rfl) b.l (by rfl) hb _ y3 (by simp) ?_
      intro v5 y5 s5
      have y4 := y4.step s5 (fun e => rowNe y3 y4 (by simp) e.symm)
      refine hK.out _ _ (((Stp.of_below hHeld (fun x => W.heap.size ≤ x)).next s5 (fun x hx => .inl (by subst hx; exact m8))).below (Nat.le_refl _) (fun _ h => h)) (fun hHeld => ?_)
      clear hK K
      try simp only [Act.put]
      refine rd 6 rfl (fun K hK => ?_)
      refine step_st _ _ (.int .u32 (t : Int)) _ rfl _ _ (by rfl) (by rfl) (by rfl) (storeU (x := undef) y4) ?_
      have y6 := y4.set 0 (.int .u32 (t : Int)) rfl
      have s6 := y4.stp 0 (.int .u32 (t : Int))
      have y5 := y5.step s6 (fun e => rowNe y5 y4 (by rw [hb]; simp) e)
      refine hK.out _ _ (((Stp.of_below hHeld (fun x => W.heap.size ≤ x)).next s6 (fun x hx => .inl (by subst hx; exact m9))).below (Nat.le_refl _) (fun _ h => h)) (fun hHeld => ?_)
      clear hK K
      try simp only [Act.put]
      refine wpAnyH_done (by kernel_rfl) ?_ _
      exact tail g8 g9 _ y5 y6 m8 m9 hHeld
  · skip
    refine step_newU rfl rfl ?_
    intro g9 v4 a4 z4 y4 b4
    have m9 : W.heap.size ≤ g9 := Nat.le_trans hHeld.size a4
    try (have y3 := y3.later b4)
    refine hK.out _ _ (bnext hHeld b4 (Nat.le_refl _)) (fun hHeld => ?_)
    clear hK K
    try simp only [z]
    refine wpAnyH_ready (rs := [2, 3]) (by kernel_rfl) (by simp) ?_
    refine (AllReadyH.cons (o := ⟨some 13, .call { callee := Callee.value (.func 120), args := #[.tmp 12], argTypes := #[88] }, 22, _, #[⟨1, .data⟩], none⟩) rfl (fun K hK => ?_) (AllReadyH.cons (o := ⟨some 8, .alloc 88, 0, _, #[], none⟩) rfl (fun K hK => ?_) AllReadyH.nil))
    · skip
      go_simp
      refine (HT _).mono ?_
      rintro e v1 ⟨rfl, c1⟩
      try go_wp2_with fail
      try (have y3 := y3.later c1)
      try (have y4 := y4.later c1)
      refine hK.out _ _ (bnext hHeld c1 (Nat.le_refl _)) (fun hHeld => ?_)
      clear hK K
      try simp only [z]
      refine rd 3 rfl (fun K hK => ?_)
      refine step_new 88 64 arrB rfl rfl ?_
      intro g8 v3 a3 z3 y3 b3
      have m8 : W.heap.size ≤ g8 := Nat.le_trans hHeld.size a3
      try (have y4 := y4.later b3)
      refine hK.out _ _ (bnext hHeld b3 (Nat.le_refl _)) (fun hHeld => ?_)
      clear hK K
      try simp only [z]
      refine rd 5 rfl (fun K hK => ?_)
      refine step_put 88 64 arrB rfl (.tmp 8) (.tmp 11) rfl g8 (by rfl) b.l (by rfl) hb _ y3 (by simp) ?_
      intro v5 y5 s5
      have y4 := y4.step s5 (fun e => rowNe y3 y4 (by simp) e.symm)
      refine hK.out _ _ (((Stp.of_below hHeld (fun x => W.heap.size ≤ x)).next s5 (fun x hx => .inl (by subst hx; exact m8))).below (Nat.le_refl _) (fun _ h => h)) (fun hHeld => ?_)
      clear hK K
      try simp only [Act.put]
      refine rd 6 rfl (fun K hK => ?_)
      refine step_st _ _ (.int .u32 (t : Int)) _ rfl _ _ (by rfl) (by rfl) (by rfl) (storeU (x := undef) y4) ?_
      have y6 := y4.set 0 (.int .u32 (t : Int)) rfl
      have s6 := y4.stp 0 (.int .u32 (t : Int))
      have y5 := y5.step s6 (fun e => rowNe y5 y4 (by rw [hb]; simp) e)
      refine hK.out _ _ (((Stp.of_below hHeld (fun x => W.heap.size ≤ x)).next s6 (fun x hx => .inl (by subst hx; exact m9))).below (Nat.le_refl _) (fun _ h => h)) (fun hHeld => ?_)
      clear hK K
      try simp only [Act.put]
      refine wpAnyH_done (by kernel_rfl) ?_ _
      exact tail g8 g9 _ y5 y6 m8 m9 hHeld
    · skip
      refine step_new 88 64 arrB rfl rfl ?_
      intro g8 v3 a3 z3 y3 b3
      have m8 : W.heap.size ≤ g8 := Nat.le_trans hHeld.size a3
      try (have y4 := y4.later b3)
      refine hK.out _ _ (bnext hHeld b3 (Nat.le_refl _)) (fun hHeld => ?_)
      clear hK K
      try simp only [z]
      refine rd 2 rfl (fun K hK => ?_)
      go_simp
      refine (HT _).mono ?_
      rintro e v1 ⟨rfl, c1⟩
      try go_wp2_with fail
      try (have y3 := y3.later c1)
      try (have y4 := y4.later c1)
      refine hK.out _ _ (bnext hHeld c1 (Nat.le_refl _)) (fun hHeld => ?_)
      clear hK K
      try simp only [z]
      refine rd 5 rfl (fun K hK => ?_)
      refine step_put 88 64 arrB rfl (.tmp 8) (.tmp 11) rfl g8 (by rfl) b.l (by rfl) hb _ y3 (by simp) ?_
      intro v5 y5 s5
      have y4 := y4.step s5 (fun e => rowNe y3 y4 (by simp) e.symm)
      refine hK.out _ _ (((Stp.of_below hHeld (fun x => W.heap.size ≤ x)).next s5 (fun x hx => .inl (by subst hx; exact m8))).below (Nat.le_refl _) (fun _ h => h)) (fun hHeld => ?_)
      clear hK K
      try simp only [Act.put]
      refine rd 6 rfl (fun K hK => ?_)
      refine step_st _ _ (.int .u32 (t : Int)) _ rfl _ _ (by rfl) (by rfl) (by rfl) (storeU (x := undef) y4) ?_
      have y6 := y4.set 0 (.int .u32 (t : Int)) rfl
      have s6 := y4.stp 0 (.int .u32 (t : Int))
      have y5 := y5.step s6 (fun e => rowNe y5 y4 (by rw [hb]; simp) e)
      refine hK.out _ _ (((Stp.of_below hHeld (fun x => W.heap.size ≤ x)).next s6 (fun x hx => .inl (by subst hx; exact m9))).below (Nat.le_refl _) (fun _ h => h)) (fun hHeld => ?_)
      clear hK K
      try simp only [Act.put]
      refine wpAnyH_done (by kernel_rfl) ?_ _
      exact tail g8 g9 _ y5 y6 m8 m9 hHeld
set_option maxRecDepth 100000
set_option maxRecDepth 100000 in
theorem now1_any (p : Pt) (d n : Sv) (w : World) : Calls Tryz.prog 88 #[.agg (p.cs d n).toArray] w fun e w' => e = .returned (.bool true) ∧ Below w.heap.size w w' := by
  go_enter Tryz.func88, Tryz.ntmps88
  go_wp2_with (first
    | (refine at_boxP (by rfl) _ (by rfl) p d n (by rfl) ?_; intro g1 w1 a1 z1 r1 b1))
  go_returns
  exact ⟨rfl, b1⟩
theorem filter_all {α : Type} (l : List α) : l.filter (fun _ => true) = l := by simp
set_option maxRecDepth 100000 in
set_option maxHeartbeats 2000000 in
theorem now_any {w : World} {E : Nat → Prop} {s : Sv} {L : List Pe} (H : Ps w E s L) (b : Blk) (hE : ∀ x, E x → x < w.heap.size) :
    Calls Tryz.prog 63 #[.agg b.cs.toArray, .slice s.a s.n s.c] w fun e w' => e = .returned (.tuple #[.agg (nwB b (pts L)).cs.toArray, .int .i64 (nwE (pts L))]) ∧ Below w.heap.size w w' := by
  have hb := b.len
  have HO : ∀ u, Below w.heap.size w u → _ := fun u hu => over_any (H.later hu) 88 #[] (fun _ => true) b (fun v p d n _ _ => now1_any p d n v) (fun args w => rfl) (fun x hx => Nat.lt_of_lt_of_le (hE x hx) hu.size)
  rw [filter_all] at HO
  have hR := (nwB b (pts L)).len
  generalize nwB b (pts L) = R at *
  generalize nwE (pts L) = e0 at *
  go_enter Tryz.func63, Tryz.ntmps63
  go_wp2_with (first
    | (refine at_box 88 64 arrB (by rfl) _ (by rfl) b.l (by rfl) hb ?_; intro gb w1 a1 z1 r1 b1)
    | (refine at_new 88 64 arrB (by rfl) (by rfl) ?_; intro gr w2 a2 z2 r2 b2)
    | (refine at_get 88 64 arrB (by rfl) _ (by rfl) gb (by rfl) _ (r1.later b2) hb ?_)
    | (go_at_call 87; refine (HO _ (bnext b1 b2 (Nat.le_refl _))).mono ?_; rintro e w3 ⟨rfl, b3⟩)
    | (refine at_put 88 64 arrB (by rfl) _ _ (by rfl) gr (by rfl) R.l (by rfl) hR _ (r2.later b3) (by simp) ?_; intro w9 r9 s9))
  have S3 : Stp (fun x => w.heap.size ≤ x) w w3 := Stp.of_below (bnext (bnext b1 b2 (Nat.le_refl _)) b3 (Nat.le_refl _)) _
  have hgr : w.heap.size ≤ gr := by have := b1.size; omega
  exact bodyPost_ret (retAt arrB Tryz.results63 rfl rfl r9 hR) rfl ⟨rfl, (S3.next s9 (fun x hx => .inl (by subst hx; exact hgr))).below (Nat.le_refl _) (fun _ h => h)⟩
set_option maxRecDepth 100000
structure FwI (w wr : World) (v : Value) (L : List Pe) : Prop where
  pu : PuI w wr v L
  ms : ∀ t ∈ L, PtM wr (fun x => w.heap.size ≤ x ∧ x < wr.heap.size ∧ v.ownBlock ≠ some x) t.p t.d t.n
  wf : ∀ t ∈ L, t.p.wfp
theorem FwI.ps {w wr : World} {v : Value} {L : List Pe} (h : FwI w wr v L) : ∃ s : Sv, v = .slice s.a s.n s.c ∧ s.n = L.length ∧ Ps wr (Made w wr) s L := by
  have hM : ∀ t ∈ L, PtM wr (Made w wr) t.p t.d t.n := fun t ht => (h.ms t ht).mono fun x hx => ⟨hx.1, hx.2.1⟩
  have how := h.pu.ow
  have hnw := h.pu.nw
  rcases h.pu.ow.2 with ⟨e1, e2⟩ | ⟨g, cap, cur, e1, _, e3, e4, e5, e6, e7⟩
  · obtain rfl : L = [] := List.eq_nil_of_length_eq_zero e2
    exact ⟨Sv.nil, e1, rfl, Ps.nilS _ _⟩
  · subst e1
    refine ⟨⟨some ⟨g, 0, none⟩, L.length, cap⟩, rfl, rfl, rfl, e4, e5, (fun e => by cases e), fun hn => ⟨g, 0, rfl, ⟨hnw g rfl, how.lt rfl⟩, fun i t ht => ?_⟩, h.wf, hM⟩
    have hi := (List.getElem?_eq_some_iff.1 ht).1
    obtain ⟨b, t', h1, h2, h3⟩ := how.el i hi
    injection h1 with h1; injection h1 with h1; subst h1
    rw [ht] at h2; injection h2 with h2; subst h2
    rw [Nat.zero_add]; exact h3
set_option maxRecDepth 100000
def PsL (w : World) (s : Sv) (l : List Pt) : Prop := ∃ M, Ps w (fun x => x < w.heap.size) s M ∧ pts M = l
theorem FwI.psL {w w' : World} {v : Value} {M : List Pe} (h : FwI w w' v M) : ∃ s : Sv, v = .slice s.a s.n s.c ∧ PsL w' s (pts M) ∧ Below w.heap.size w w' := by
  obtain ⟨s, h1, _, h3⟩ := h.ps
  exact ⟨s, h1, ⟨M, h3.mono (fun x hx => hx.2), rfl⟩, h.pu.b⟩
theorem now_L {w : World} {s : Sv} {l : List Pt} (h : PsL w s l) (b : Blk) :
    Calls Tryz.prog 63 #[.agg b.cs.toArray, .slice s.a s.n s.c] w fun e w' => e = .returned (.tuple #[.agg (nwB b l).cs.toArray, .int .i64 (nwE l)]) ∧ Below w.heap.size w w' := by
  obtain ⟨M, h1, rfl⟩ := h
  exact now_any h1 b (fun x hx => hx)
end Go.Proofs.YtgdnhkdfcjpdiaaGreatDoor
