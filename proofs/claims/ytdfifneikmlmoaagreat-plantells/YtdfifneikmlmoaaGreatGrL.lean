/-
  What settle of layer 14 does: no statement is proved here.
-/
import Derived.Test.YtdfifneikmlmoaaGreatGrK
namespace Go.Proofs.YtdfifneikmlmoaaGreat
open Go.ChangeShapes Go.WideShapes Go.ChangeAt Go.RowKit
set_option linter.unusedVariables false
set_option linter.unusedSimpArgs false

theorem GZ.ok.filt {Z : GZ} {t : Int} (h : Z.ok t) (q : Pt → Bool) : (GZ.mk Z.last (Z.l.filter q)).ok t :=
  ⟨h.srt.filter _, fun p hp => h.rng p ((List.mem_filter.1 hp).1), fun p hp => h.ft p ((List.mem_filter.1 hp).1), fun p hp => h.nds p ((List.mem_filter.1 hp).1), fun p hp => h.wf p ((List.mem_filter.1 hp).1), h.l0, h.lt⟩
theorem fnd_filt (l : List Pt) (i k : Int) : fnd (l.filter fun r => !(r.id == i)) k = if k = i then none else fnd l k := by
  unfold fnd
  rw [List.find?_filter]
  by_cases e : k = i
  · subst e
    rw [if_pos rfl]
    refine List.find?_eq_none.2 fun p _ => ?_
    simp
  · rw [if_neg e]
    congr 1
    funext p
    by_cases e2 : p.id = k
    · simp [e2, e]
    · simp [e2]
theorem same_id {l : List Pt} (hs : l.Pairwise fun a b => a.id < b.id) {p r : Pt} (hp : p ∈ l) (hr : r ∈ l) (e : r.id = p.id) : r = p := by
  have h1 := fnd_of hs hp
  have h2 := fnd_of hs hr
  rw [e, h1] at h2; injection h2 with h2; exact h2.symm
theorem wtP_filt {l : List Pt} (hs : l.Pairwise fun a b => a.id < b.id) {p : Pt} (hp : p ∈ l) (hw : p.wr = true) (s : Int) : wtP (l.filter fun r => !(r.id == p.id)) s = wtP l s := by
  unfold wtP
  rw [List.filter_filter]
  refine List.filter_congr fun r hr => ?_
  by_cases e : r.id = p.id
  · rw [same_id hs hp hr e]; simp [inS, hw]
  · simp [e]
/-- One patch that is written goes. -/
theorem Gr.gone {w w' : World} {g mp mw : Nat} {f fw : Int → Option Value} {Z : GZ} {E F : Nat → Prop} (H : Gr w g mp mw f fw Z E F) {p : Pt} (hp : p ∈ Z.l) (hw : p.wr = true) (k : Stp (fun x => x = mp) w w') (hm : MpI Tryz.prog 3 w' mp (upd f p.id none)) :
    Gr w' g mp mw (upd f p.id none) fw ⟨Z.last, Z.l.filter fun r => !(r.id == p.id)⟩ E F := by
  have hne : ∀ x, E x → x ≠ mp := fun x hx e => H.ef x hx (e ▸ H.fm)
  have hW : ∀ s, wts (Z.l.filter fun r => !(r.id == p.id)) s = wts Z.l s := fun s => by unfold wts; rw [wtP_filt H.ok.srt hp hw]
  refine ⟨H.c.step k (H.c.notMap H.pm), hm, H.wm.step k (fun e => H.ne e.symm), fun i q hq => ?_, fun i hi => ?_, fun s hs => ?_, fun s hs => ?_, H.ap, H.fg, H.fm, H.fw', H.ne, fun x hx => Nat.lt_of_lt_of_le (H.lt x hx) k.size, fun x hx => Nat.lt_of_lt_of_le (H.el x hx) k.size, H.ef, H.ok.filt _⟩
  · simp only at hq
    rw [fnd_filt] at hq
    unfold upd
    by_cases e : i = p.id
    · rw [if_pos e] at hq; cases hq
    · rw [if_neg e] at hq ⊢
      obtain ⟨d, n, h1, h2⟩ := H.ps i q hq
      exact ⟨d, n, h1, h2.step k hne⟩
  · simp only at hi
    rw [fnd_filt] at hi
    unfold upd
    by_cases e : i = p.id
    · rw [if_pos e]
    · rw [if_neg e] at hi ⊢; exact H.pn i hi
  · simp only at hs ⊢
    rw [hW] at hs ⊢
    obtain ⟨v, h1, h2, h3⟩ := H.ws s hs
    exact ⟨v, h1, h2.step k (fun r hr e => h2.map_ne H.pm (by rw [hr, e])), h3⟩
  · simp only at hs
    rw [hW] at hs
    exact H.wn s hs
/-- Part way: of those that are written, the first k were looked at. -/
def dnL (l : List Pt) (q : Pt → Bool) (k : Nat) : List Pt := l.filter fun p => !(p.wr && q p && (ids ((thP l (·.wr)).take k)).contains p.id)
section
variable {l : List Pt} {q : Pt → Bool} {k : Nat}
theorem ids_take (hk : k < (thP l (·.wr)).length) : ids ((thP l (·.wr)).take (k + 1)) = ids ((thP l (·.wr)).take k) ++ [((thP l (·.wr))[k]).id] := by
  rw [List.take_add_one, List.getElem?_eq_getElem hk]; unfold ids; rw [List.map_append]; rfl
theorem dn_zero : dnL l q 0 = l := by
  unfold dnL
  exact List.filter_eq_self.2 fun p _ => by simp [ids]
theorem dn_yes (hs : l.Pairwise fun a b => a.id < b.id) (hk : k < (thP l (·.wr)).length) (hq : q (thP l (·.wr))[k] = true) : dnL l q (k + 1) = (dnL l q k).filter fun r => !(r.id == ((thP l (·.wr))[k]).id) := by
  have hm := List.mem_filter.1 (List.getElem_mem hk)
  unfold dnL
  rw [List.filter_filter, ids_take hk]
  refine List.filter_congr fun r hr => ?_
  by_cases e : r.id = ((thP l (·.wr))[k]).id
  · have := same_id hs hm.1 hr e
    have h1 : r.wr = true := by rw [this]; exact hm.2
    have h2 : q r = true := by rw [this]; exact hq
    have h3 : (ids (List.take k (thP l (·.wr))) ++ [((thP l (·.wr))[k]).id]).contains r.id = true := by rw [e]; simp
    rw [h1, h2, h3, e]; simp
  · have h4 : (ids (List.take k (thP l (·.wr))) ++ [((thP l (·.wr))[k]).id]).contains r.id = (ids (List.take k (thP l (·.wr)))).contains r.id := by
      rw [Bool.eq_iff_iff]; simp [e]
    rw [h4]
    have : (r.id == ((thP l (·.wr))[k]).id) = false := by simpa using e
    rw [this]; simp
theorem dn_no (hs : l.Pairwise fun a b => a.id < b.id) (hk : k < (thP l (·.wr)).length) (hq : q (thP l (·.wr))[k] = false) : dnL l q (k + 1) = dnL l q k := by
  have hm := List.mem_filter.1 (List.getElem_mem hk)
  unfold dnL
  rw [ids_take hk]
  refine List.filter_congr fun r hr => ?_
  by_cases e : r.id = ((thP l (·.wr))[k]).id
  · have := same_id hs hm.1 hr e
    have h2 : q r = false := by rw [this]; exact hq
    rw [h2]; simp
  · have h4 : (ids (List.take k (thP l (·.wr))) ++ [((thP l (·.wr))[k]).id]).contains r.id = (ids (List.take k (thP l (·.wr)))).contains r.id := by
      rw [Bool.eq_iff_iff]; simp [e]
    rw [h4]
theorem dn_end (hk : (thP l (·.wr)).length ≤ k) : dnL l q k = l.filter fun p => !(p.wr && q p) := by
  unfold dnL
  rw [List.take_of_length_le hk]
  refine List.filter_congr fun r hr => ?_
  cases hw : r.wr
  · simp
  · have : (ids (thP l (·.wr))).contains r.id = true := by
      simp only [List.contains_iff_mem]
      exact List.mem_map.2 ⟨r, List.mem_filter.2 ⟨hr, hw⟩, rfl⟩
    rw [this]; simp
theorem dn_has (hs : l.Pairwise fun a b => a.id < b.id) (hk : k < (thP l (·.wr)).length) : (thP l (·.wr))[k] ∈ dnL l q k := by
  have hm := List.mem_filter.1 (List.getElem_mem hk)
  unfold dnL
  refine List.mem_filter.2 ⟨hm.1, ?_⟩
  have hp : (ids (thP l (·.wr))).Pairwise (· < ·) := ids_rise hs _
  have : (ids ((thP l (·.wr)).take k)).contains ((thP l (·.wr))[k]).id = false := by
    rw [Bool.eq_false_iff]
    intro h
    simp only [List.contains_iff_mem] at h
    obtain ⟨r, hr, he⟩ := List.mem_map.1 h
    have hpw : (thP l (·.wr)).Pairwise fun a b => a.id < b.id := hs.filter _
    rw [← List.take_append_drop k (thP l (·.wr)), List.pairwise_append] at hpw
    have := hpw.2.2 r hr ((thP l (·.wr))[k]) (by rw [List.drop_eq_getElem_cons hk]; exact List.mem_cons_self)
    omega
  rw [this]; simp
/-- How many of the first k go. -/
def dnN (l : List Pt) (q : Pt → Bool) (k : Nat) : Nat := (((thP l (·.wr)).take k).filter q).length
theorem dnN_succ (hk : k < (thP l (·.wr)).length) : dnN l q (k + 1) = dnN l q k + if q (thP l (·.wr))[k] then 1 else 0 := by
  unfold dnN
  rw [List.take_add_one, List.getElem?_eq_getElem hk, List.filter_append, List.length_append]
  congr 1
  simp only [Option.toList_some, List.filter_cons, List.filter_nil]
  split <;> rfl
theorem dnN_le : dnN l q k ≤ k := by
  unfold dnN
  exact Nat.le_trans (List.length_filter_le _ _) (List.length_take_le _ _)
theorem dnN_end (hk : (thP l (·.wr)).length ≤ k) : dnN l q k = (l.filter fun p => p.wr && q p).length := by
  unfold dnN
  rw [List.take_of_length_le hk]
  unfold thP
  rw [List.filter_filter]
  congr 1
  refine List.filter_congr fun r _ => ?_
  exact Bool.and_comm _ _
end
/-- What a call that may change the graph leaves. -/
def Gh (w : World) (g : Nat) (Z : GZ) (E F : Nat → Prop) : Prop := ∃ mp mw f fw, Gr w g mp mw f fw Z E F
set_option maxRecDepth 100000 in
set_option maxHeartbeats 4000000 in
theorem settle_any {w : World} {g mp mw : Nat} {f fw : Int → Option Value} {Z : GZ} {E F : Nat → Prop} (H : Gr w g mp mw f fw Z E F) (fi : FuncId) (lb : Array Value) (q : Pt → Bool) (hq : Tells w F E fi lb q) (eg : ∀ args w, (callFunc fi args).run Tryz.prog w = .ok (.enter fi args) w) :
    Calls Tryz.prog 70 #[.pointer (some ⟨g, 0, none⟩), .func (.func fi) #[] lb] w fun e w' => e = .returned (.int .i64 (Z.stlN q)) ∧ Gh w' g (Z.stl q) E F ∧ Stp F w w' := by
  have hWr := written_any H
  have hfew := H.ok.few
  have hlen : (thP Z.l (·.wr)).length ≤ Z.l.length := List.length_filter_le _ _
  have hwf : ∀ x ∈ ids (thP Z.l (·.wr)), wfi x := fun x hx => by
    obtain ⟨p, hp, rfl⟩ := List.mem_map.1 hx
    exact (H.ok.wfp (List.mem_filter.1 hp).1).i
  go_enter Tryz.func70, Tryz.ntmps70
  go_wp2_with (first | (go_at_call 14; refine hWr.mono ?_; rintro e w1 ⟨v, rfl, o1, n1, b1⟩; obtain ⟨⟨va, vn, vc⟩, e0, hvn, iv, ie⟩ := o1.ins hwf n1; have e1 : v = .slice va vn vc := e0; have hvn' : vn = (thP Z.l (·.wr)).length := (by simp only at hvn; rw [hvn]; simp [ids]); clear hvn e0; subst hvn'; subst e1))
  clear hWr
  go_loopw [5, 11] (fun y x wr => ∃ (k : Nat) (f' : Int → Option Value), k ≤ (thP Z.l (·.wr)).length ∧ x = .int .i64 (k : Int) ∧ y = .int .i64 (dnN Z.l q k : Int) ∧ Gr wr g mp mw f' fw ⟨Z.last, dnL Z.l q k⟩ E F ∧ Stp F w1 wr) (fun _ x _ => (thP Z.l (·.wr)).length - (intOf x).toNat)
  case atStart =>
    refine ⟨0, f, Nat.zero_le _, rfl, rfl, ?_, Stp.refl _ _⟩
    rw [dn_zero]; exact H.later b1
  case round =>
    obtain ⟨k, f', hk, rfl, rfl, H4, st⟩ := hrel
    have sw : Stp F w wr := (Stp.of_below b1 F).trans st
    by_cases hkl : k < (thP Z.l (·.wr)).length
    · have iv4 : InsS wr ⟨va, (thP Z.l (·.wr)).length, vc⟩ (ids (thP Z.l (·.wr))) := iv.step st ie (fun x hx e => by have := H.lt x e; omega)
      obtain ⟨b, o, e, hcs⟩ := iv4.i.cell (by simp only; omega)
      have ck := hcs k (by simp only; omega)
      have hget : (ids (thP Z.l (·.wr))).getD k 0 = ((thP Z.l (·.wr))[k]).id := by
        unfold ids; rw [List.getD_eq_getElem?_getD, List.getElem?_map, List.getElem?_eq_getElem hkl]; rfl
      rw [hget] at ck
      simp only at e
      have hmem := List.mem_filter.1 (List.getElem_mem hkl)
      have hin := dn_has (q := q) H.ok.srt hkl
      obtain ⟨d4, n4, e4, m4, _⟩ := H4.look ((thP Z.l (·.wr))[k]).id
      rw [show gt (GZ.mk Z.last (dnL Z.l q k)).l ((thP Z.l (·.wr))[k]).id = (thP Z.l (·.wr))[k] from H4.ok.gt_of hin] at e4 m4
      have hwq := (H.ok.wfp hmem.1).i
      have hys := dn_yes (q := q) H.ok.srt hkl
      have hno := dn_no (q := q) H.ok.srt hkl
      have hN := dnN_succ (q := q) hkl
      have hgone := fun w5 => H4.gone (w' := w5) hin hmem.2
      have hdn := dnN_le (l := Z.l) (q := q) (k := k)
      generalize (thP Z.l (·.wr))[k] = p at *
      subst e
      have a9 : (k : Int) < ((thP Z.l (·.wr)).length : Int) := by omega
      have pm4 := H4.pm
      obtain ⟨z0, z1, z2⟩ := H4.cells
      have t1 : True := trivial
      clear hcs iv4 z0 z2 hget
      have hCall := hq wr p d4 n4 sw m4
      go_wp2_with (first
        | (clear t1; refine at_look1 74 54 uPm _ zP (by rfl) _ _ (by rfl) mp f' (by rfl) pm4 p.id (by rfl) hwq _ e4 ?_))
      refine hCall.mono ?_
      rintro e w7 ⟨rfl, b7⟩
      have H7 := H4.later b7
      have s7 : Stp F w1 w7 := st.trans (Stp.of_below b7 F)
      obtain ⟨z0, z1, z2⟩ := H7.cells
      have pm7 := H7.pm
      clear hCall pm4 z0 z2 ck
      cases hc : q p with
      | false =>
        rw [if_neg (by rw [hc]; simp)] at hN
        have hN' : Hid (dnN Z.l q (k + 1) = dnN Z.l q k + 0) := hN
        have hL' : Hid (dnL Z.l q (k + 1) = dnL Z.l q k) := hno hc
        clear hN hno hys
        go_wp2_with fail
        go_roundw
        case rel => exact ⟨k + 1, f', by omega, by go_num, by rw [hN'.out]; rfl, by rw [hL'.out]; exact H7, s7⟩
        case measure => simp [intOf]; omega
      | true =>
        rw [if_pos hc] at hN
        have hN' : Hid (dnN Z.l q (k + 1) = dnN Z.l q k + 1) := hN
        have hL' : Hid (dnL Z.l q (k + 1) = (dnL Z.l q k).filter fun r => !(r.id == p.id)) := hys hc
        clear hN hno hys
        have t2 : True := trivial
        go_wp2_with (first
          | (clear t2; refine at_drop (t := 74) (by rfl) _ _ (by rfl) (by rfl) (by rfl) (fun ty => pm7.drop u3 uPm hwq ty) ?_; rintro w8 ⟨d5, d6⟩))
        go_roundw
        case rel => exact ⟨k + 1, upd f' p.id none, by omega, by go_num, by rw [hN'.out]; go_num, by rw [hL'.out]; exact H7.gone hin hmem.2 (turned_stp d6) d5, s7.next (turned_stp d6) (fun x e => .inl (by rw [e]; exact H.fm))⟩
        case measure => simp [intOf]; omega
    · have hk' : k = (thP Z.l (·.wr)).length := by omega
      have hN' : Hid (dnN Z.l q k = (Z.l.filter fun p => p.wr && q p).length) := dnN_end (by omega)
      have hL' : Hid (dnL Z.l q k = Z.l.filter fun p => !(p.wr && q p)) := dn_end (by omega)
      subst hk'
      go_wp2
      go_returns
      refine ⟨ret_int ?_, ⟨mp, mw, f', fw, ?_⟩, sw⟩
      · rw [hN'.out]; rfl
      · have := H4; rw [hL'.out] at this; exact this
end Go.Proofs.YtdfifneikmlmoaaGreat
