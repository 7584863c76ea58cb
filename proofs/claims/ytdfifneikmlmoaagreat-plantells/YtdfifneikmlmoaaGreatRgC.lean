/-
  What New, own, settle, Settle and SettleAll of the document's graph return and leave: no statement is proved here.
-/
import Derived.Test.YtdfifneikmlmoaaGreatRgB
import Derived.Great.BuildSlice
namespace Go.Proofs.YtdfifneikmlmoaaGreat
open Go.ChangeShapes Go.WideShapes Go.ChangeAt Go.RowKit
set_option linter.unusedVariables false
set_option linter.unusedSimpArgs false

/-- The document's graph at g. -/
def Rh (w : World) (g : Nat) (Z : GZ) (R : Nat → Prop) : Prop := ∃ a c L, Rf w g Z a c L R
/-- What is settled, of a sector (less than 0: of all). -/
def qS (s : Int) (p : Pt) : Bool := decide (s < 0) || p.at' == s
def kS (s : Int) (p : Pt) : Bool := !(p.wr && qS s p)
theorem len_not {α : Type} (l : List α) (f : α → Bool) : (l.filter fun x => !f x).length + (l.filter f).length = l.length := by
  induction l with
  | nil => rfl
  | cons a t ih => rw [List.filter_cons, List.filter_cons]; cases f a <;> simp <;> omega
theorem stl_ok {Z : GZ} (h : Z.ok 2000) (q : Pt → Bool) : (Z.stl q).ok 2000 :=
  ⟨h.srt.filter _, fun p hp => h.rng p (List.mem_filter.1 hp).1, fun p hp => h.ft p (List.mem_filter.1 hp).1, fun p hp => h.nds p (List.mem_filter.1 hp).1, fun p hp => h.wf p (List.mem_filter.1 hp).1, h.l0, h.lt⟩
set_option maxRecDepth 100000 in
set_option maxHeartbeats 2000000 in
theorem rsettle_any {w : World} {g : Nat} {Z : GZ} {a : Option Addr} {c : Nat} {L : List Pe} {R : Nat → Prop} (H : Rf w g Z a c L R) (s : Int) :
    Calls Tryz.prog 72 #[.pointer (some ⟨g, 0, none⟩), .int .i64 s] w fun e w' => e = .returned (.int .i64 (Z.stlN (qS s))) ∧ Rh w' g (Z.stl (qS s)) (fun x => R x ∨ Made w w' x) ∧ Stp (fun x => x = g) w w' := by
  have hfew := H.few
  have hlen := H.len
  have hcap : L.length ≤ maxLen := by obtain ⟨_, _, _, h, _⟩ := H.row.shape; exact h
  have hlen' : Hid (L.length = Z.l.length) := hlen
  clear hlen
  have t1 : True := trivial
  go_enter Tryz.func72, Tryz.ntmps72
  go_wp2_with fail
  have i0 := PuI.made w w (Below.refl _ _)
  go_loopw [5, 6] (fun u v wr => ∃ (k : Nat) (sv : Sv), k ≤ L.length ∧ u = .slice sv.a sv.n sv.c ∧ v = .int .i64 (k : Int) ∧ PuI w wr (.slice sv.a sv.n sv.c) ((L.take k).filter fun t => kS s t.p)) (fun _ v _ => L.length - (intOf v).toNat)
  case atStart => exact ⟨0, ⟨_, _, _⟩, Nat.zero_le _, rfl, rfl, i0⟩
  case round =>
    clear i0
    obtain ⟨k, sv, hk, rfl, rfl, I⟩ := hrel
    have H4 := H.later I.b
    obtain ⟨z0, z1⟩ := H4.cells
    by_cases hkl : k < L.length
    · obtain ⟨b, t, rfl, e2, hr⟩ := H4.row.el k hkl
      obtain ⟨c0, c1, c2, c3, c4, c5, c6, c7, c8⟩ := Pe.at9 hr
      have a9 : (k : Int) < (L.length : Int) := by omega
      have a8 : (0 : Int) ≤ (k : Int) := by omega
      have hst := flt_stepE e2 (fun t => kS s t.p)
      have hbig : ((L.take k).filter fun t => kS s t.p).length + 1 ≤ 1000000 := by
        have h1 : ((L.take k).filter fun t => kS s t.p).length ≤ k := Nat.le_trans (List.length_filter_le _ _) (by simp; omega)
        omega
      cases hw : t.p.wr with
      | false =>
        rw [hw] at c8
        have hq : kS s t.p = true := by unfold kS; rw [hw]; rfl
        rw [if_pos hq] at hst
        have hnew := cell_new9' wr t false hw 54
        go_wp2_with (first
          | (at_builtin; refine at_appR elP w.heap.size rfl _ _ (by rfl) (by rfl) (ro_later I.ow ((Below.refl _ wr).alloc (Nat.le_refl _) _)) I.nw (some ⟨wr.heap.size, 0, none⟩) 1 t.cs (by rfl) (by rfl) (fun e => by cases e) (fun ad e => by injection e with e; subst e; exact hnew) t.cs_one hbig (Nat.le_trans I.b.size (by simp)) ?_; intro v' w9 hA; have I9 := I.app ((Below.refl _ wr).alloc (Nat.le_refl _) _) hA; obtain ⟨xa, xn, xc, rfl⟩ := I9.ow.shape'; clear hA))
        go_roundw
        case rel => exact ⟨k + 1, ⟨xa, xn, xc⟩, by omega, rfl, by go_num, by rw [hst]; exact I9⟩
        case measure => simp [intOf]; omega
      | true =>
        rw [hw] at c8
        by_cases hs : s < 0
        · have hs' : ¬ (0 : Int) ≤ s := by omega
          have hq : ¬ kS s t.p = true := by unfold kS qS; rw [hw]; simp [hs]
          rw [if_neg hq, List.append_nil] at hst
          go_wp2_with fail
          go_roundw
          case rel => exact ⟨k + 1, sv, by omega, rfl, by go_num, by rw [hst]; exact I⟩
          case measure => simp [intOf]; omega
        · have hs' : (0 : Int) ≤ s := by omega
          by_cases ha : t.p.at' = s
          · have hq : ¬ kS s t.p = true := by unfold kS qS; rw [hw]; simp [ha]
            rw [if_neg hq, List.append_nil] at hst
            go_wp2_with fail
            go_roundw
            case rel => exact ⟨k + 1, sv, by omega, rfl, by go_num, by rw [hst]; exact I⟩
            case measure => simp [intOf]; omega
          · have hq : kS s t.p = true := by unfold kS qS; rw [hw]; simp [hs, ha]
            rw [if_pos hq] at hst
            have hnew := cell_new9' wr t true hw 54
            go_wp2_with (first
              | (at_builtin; refine at_appR elP w.heap.size rfl _ _ (by rfl) (by rfl) (ro_later I.ow ((Below.refl _ wr).alloc (Nat.le_refl _) _)) I.nw (some ⟨wr.heap.size, 0, none⟩) 1 t.cs (by rfl) (by rfl) (fun e => by cases e) (fun ad e => by injection e with e; subst e; exact hnew) t.cs_one hbig (Nat.le_trans I.b.size (by simp)) ?_; intro v' w9 hA; have I9 := I.app ((Below.refl _ wr).alloc (Nat.le_refl _) _) hA; obtain ⟨xa, xn, xc, rfl⟩ := I9.ow.shape'; clear hA))
            go_roundw
            case rel => exact ⟨k + 1, ⟨xa, xn, xc⟩, by omega, rfl, by go_num, by rw [hst]; exact I9⟩
            case measure => simp [intOf]; omega
    · have a9 : ¬ (k : Int) < (L.length : Int) := by omega
      have hk2 : L.length ≤ k := by omega
      have e1 : L.take k = L := List.take_of_length_le hk2
      rw [e1] at I
      obtain ⟨xa, xc, e2, hx1, _⟩ := I.ow.shape
      obtain ⟨sa, sn, sc⟩ := sv
      injection e2 with f1 f2 f3
      subst f2
      clear f1 f3
      have hn : ((L.filter fun t => kS s t.p).length : Int) ≤ (L.length : Int) := by have := List.length_filter_le (fun t => kS s t.p) L; omega
      have hN : (L.length : Int) - ((L.filter fun t => kS s t.p).length : Int) = Z.stlN (qS s) := by
        have h1 := len_not L (fun t => t.p.wr && qS s t.p)
        have h2 : (L.filter fun t => t.p.wr && qS s t.p).length = (Z.l.filter fun p => p.wr && qS s p).length := by
          rw [← H.eq, List.filter_map, List.length_map]; rfl
        unfold GZ.stlN
        rw [← h2]
        have h3 : (L.filter fun t => kS s t.p) = (L.filter fun x => !(x.p.wr && qS s x.p)) := rfl
        rw [h3]
        omega
      have fin : ∀ w', Cs w' g [.int .i64 Z.last, .slice sa (L.filter fun t => kS s t.p).length sc] → Stp (fun x => x = g) wr w' → Rh w' g (Z.stl (qS s)) (fun x => R x ∨ Made w w' x) ∧ Stp (fun x => x = g) w w' := fun w' hc hs => by
        have z4 := H.cc.lt
        have I2 := I
        have hb := hs.size
        refine ⟨⟨sa, sc, L.filter fun t => kS s t.p, hc, I2.ow.step hs (fun r hr e => by have := I2.nw r hr; omega), fun t ht => ?_, fun r hr => .inr ⟨I2.nw r hr, Nat.lt_of_lt_of_le (I2.ow.lt hr) hb⟩, fun e => ?_, fun x hx => ?_, ?_, stl_ok H.ok _, fun p hp => H.nl p (List.mem_filter.1 hp).1⟩, (Stp.of_below I.b (fun x => x = g)).next hs (fun x hx => .inl hx)⟩
        · exact (((H4.ms t (List.mem_filter.1 ht).1)).step hs (fun x hx e => H.rg (e ▸ hx))).mono (fun x hx => .inl hx)
        · rcases e with e | e
          · exact H.rg e
          · have := e.1; omega
        · rcases hx with e | e
          · have := H4.lt x e; omega
          · exact e.2
        · show _ = Z.l.filter _
          rw [← H.eq, List.filter_map]; rfl
      have hN' : Hid ((L.length : Int) - ((L.filter fun t => kS s t.p).length : Int) = Z.stlN (qS s)) := hN
      clear hN
      have f1 := H4.cc.frozen 1
      have fc : Cs (wr.setCell ⟨g, 1, none⟩ (.slice sa (L.filter fun t => kS s t.p).length sc)) g [.int .i64 Z.last, .slice sa (L.filter fun t => kS s t.p).length sc] := H4.cc.set 1 _ rfl
      have fs : Stp (fun x => x = g) wr (wr.setCell ⟨g, 1, none⟩ (.slice sa (L.filter fun t => kS s t.p).length sc)) := (Stp.refl (fun x => x = g) wr).setCell (p := ⟨g, 1, none⟩) (.inl rfl) _
      have fin2 := fin _ fc fs
      clear fin fc fs
      generalize (L.filter fun t => kS s t.p).length = m at *
      go_wp2_with fail
      go_returns
      exact ⟨by rw [← hN'.out]; rfl, fin2⟩
theorem Rf.mono {w : World} {g : Nat} {Z : GZ} {a : Option Addr} {c : Nat} {L : List Pe} {R R' : Nat → Prop} (h : Rf w g Z a c L R) (k : ∀ x, R x → R' x) (hg : ¬ R' g) (hl : ∀ x, R' x → x < w.heap.size) : Rf w g Z a c L R' :=
  ⟨h.cc, h.row, fun t ht => (h.ms t ht).mono k, fun r hr => k r (h.rv r hr), hg, hl, h.eq, h.ok, h.nl⟩
theorem stl_congr {Z : GZ} {q q' : Pt → Bool} (h : ∀ p ∈ Z.l, q p = q' p) : Z.stl q = Z.stl q' ∧ Z.stlN q = Z.stlN q' := by
  have h1 : (Z.l.filter fun p => !(p.wr && q p)) = Z.l.filter fun p => !(p.wr && q' p) := List.filter_congr (fun p hp => by rw [h p hp])
  have h2 : (Z.l.filter fun p => p.wr && q p) = Z.l.filter fun p => p.wr && q' p := List.filter_congr (fun p hp => by rw [h p hp])
  unfold GZ.stl GZ.stlN
  rw [h1, h2]; exact ⟨rfl, rfl⟩
theorem stl_none {Z : GZ} {q : Pt → Bool} (h : ∀ p ∈ Z.l, q p = false) : Z.stl q = Z ∧ Z.stlN q = 0 := by
  have h1 : (Z.l.filter fun p => !(p.wr && q p)) = Z.l := List.filter_eq_self.2 (fun p hp => by rw [h p hp]; simp)
  have h2 : (Z.l.filter fun p => p.wr && q p) = [] := List.filter_eq_nil_iff.2 (fun p hp => by rw [h p hp]; simp)
  unfold GZ.stl GZ.stlN
  rw [h1, h2]; exact ⟨rfl, rfl⟩
set_option maxRecDepth 100000 in
set_option maxHeartbeats 2000000 in
theorem rsettleAll_any {w : World} {g : Nat} {Z : GZ} {R : Nat → Prop} (H : Rh w g Z R) :
    Calls Tryz.prog 43 #[.pointer (some ⟨g, 0, none⟩)] w fun e w' => e = .returned (.int .i64 (Z.stlN fun _ => true)) ∧ Rh w' g (Z.stl fun _ => true) (fun x => R x ∨ Made w w' x) ∧ Stp (fun x => x = g) w w' := by
  obtain ⟨a, c, L, H⟩ := H
  have h2 := stl_congr (Z := Z) (q := qS (-1)) (q' := fun _ => true) (fun p hp => by unfold qS; simp)
  have hC := rsettle_any H (-1)
  rw [h2.1, h2.2] at hC
  clear h2
  go_enter Tryz.func43, Tryz.ntmps43
  go_wp2_with (first
    | (go_at_call 72; refine hC.mono ?_; rintro e w1 ⟨rfl, h2, h3⟩))
  go_returns
  exact ⟨rfl, h2, h3⟩
set_option maxRecDepth 100000 in
set_option maxHeartbeats 2000000 in
theorem rnew_any (w : World) :
    Calls Tryz.prog 21 #[] w fun e w' => e = .returned (.pointer (some ⟨w.heap.size, 0, none⟩)) ∧ Rh w' w.heap.size GZ.new (fun _ => False) ∧ Below w.heap.size w w' := by
  have hc := Cs.made w [.int .i64 0, .slice none 0 0] 57 (by simp [Value.oneCell'])
  have ok0 : GZ.new.ok 2000 := ⟨List.Pairwise.nil, (fun p hp => by cases hp), (fun p hp => by cases hp), (fun p hp => by cases hp), (fun p hp => by cases hp), Int.le_refl _, by decide⟩
  go_enter Tryz.func21, Tryz.ntmps21
  go_wp2_with fail
  go_returns
  exact ⟨rfl, ⟨none, 0, [], hc, OwP.nil _, (fun t ht => by cases ht), (fun r hr => by cases hr), id, (fun x hx => hx.elim), rfl, ok0, (fun p hp => by cases hp)⟩, (Below.refl _ w).alloc (Nat.le_refl _) _⟩
end Go.Proofs.YtdfifneikmlmoaaGreat
