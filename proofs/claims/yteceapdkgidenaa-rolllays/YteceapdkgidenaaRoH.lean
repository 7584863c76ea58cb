/-
  What few of the statements of layer 15 returns, and patches that come in: no statement is proved here.
-/
import Derived.Test.YteceapdkgidenaaRoG
import Derived.Test.YteceapdkgidenaaFewA
import Derived.Test.YteceapdkgidenaaPtIn
namespace Go.Proofs.Yteceapdkgidenaa
open Go.ChangeShapes Go.WideShapes Go.ChangeAt Go.RowKit
set_option linter.unusedVariables false
set_option linter.unusedSimpArgs false

/-- A list of patches of one's own, with what they hold, made since w. -/
structure FwI (w wr : World) (v : Value) (L : List Pe) : Prop where
  pu : PuI w wr v L
  ms : ∀ t ∈ L, PtM wr (fun x => w.heap.size ≤ x ∧ x < wr.heap.size ∧ v.ownBlock ≠ some x) t.p t.d t.n
  wf : ∀ t ∈ L, t.p.wfp
theorem FwI.later {w wr w' : World} {v : Value} {L : List Pe} (h : FwI w wr v L) (k : Below wr.heap.size wr w') : FwI w w' v L :=
  ⟨h.pu.later k, fun t ht => ((h.ms t ht).later k).mono (fun x hx => ⟨hx.1, Nat.lt_of_lt_of_le hx.2.1 k.size, hx.2.2⟩), h.wf⟩
theorem FwI.app {w wr w1 w2 w' : World} {v v' : Value} {l : List Pe} {t : Pe} (h : FwI w wr v l) (b1 : Below wr.heap.size wr w1) (b2 : Below w1.heap.size w1 w2) (hw : t.p.wfp) (hm : PtM w1 (Made wr w1) t.p t.d t.n) (hA : Apd w2 w.heap.size 27 9 v l.length 1 (fl l ++ t.cs) v' w') : FwI w w' v' (l ++ [t]) := by
  have hP := h.pu.app (bnext b1 b2 (Nat.le_refl _)) hA
  obtain ⟨h1, h2, h3, h4, h5⟩ := hA
  have hs1 := b1.size
  have hs2 := b2.size
  have hs4 := h4.size
  have hwr := h.pu.b.size
  have new : ∀ x, x < w2.heap.size → v.ownBlock ≠ some x → v'.ownBlock ≠ some x := fun x hx hv e => by
    rcases h3 with h3 | ⟨h3, _⟩
    · exact hv (by rw [← h3]; exact e)
    · rw [h3] at e; injection e with e; omega
  refine ⟨hP, fun u hu => ?_, fun u hu => ?_⟩
  · rcases List.mem_append.1 hu with hu | hu
    · refine (((h.ms u hu).later (bnext b1 b2 (Nat.le_refl _))).step h4 (fun x hx e => hx.2.2 e)).mono fun x hx => ⟨hx.1, by omega, new x (by omega) hx.2.2⟩
    · rw [List.mem_singleton] at hu; subst hu
      have hv : ∀ x, Made wr w1 x → v.ownBlock ≠ some x := fun x hx e => by have := h.pu.ow.lt e; have := hx.1; omega
      refine ((hm.later b2).step h4 (fun x hx e => hv x hx e)).mono fun x hx => ⟨by have := hx.1; omega, by have := hx.2; omega, new x (by have := hx.2; omega) (hv x hx)⟩
  · rcases List.mem_append.1 hu with hu | hu
    · exact h.wf u hu
    · rw [List.mem_singleton] at hu; subst hu; exact hw
theorem FwI.made (w wr : World) (b : Below w.heap.size w wr) : FwI w (wr.alloc (.cells #[] 27)) (.slice (some ⟨wr.heap.size, 0, none⟩) 0 0) [] := ⟨PuI.made w wr b, (fun t ht => by cases ht), (fun t ht => by cases ht)⟩
/-- .. as a slice that is read. -/
theorem FwI.ps {w wr : World} {v : Value} {L : List Pe} (h : FwI w wr v L) : ∃ s : Sv, v = .slice s.a s.n s.c ∧ s.n = L.length ∧ Ps wr (Made w wr) s L := by
  have hM : ∀ t ∈ L, PtM wr (Made w wr) t.p t.d t.n := fun t ht => (h.ms t ht).mono fun x hx => ⟨hx.1, hx.2.1⟩
  have how := h.pu.ow
  have hnw := h.pu.nw
  rcases h.pu.ow.2 with ⟨e1, e2⟩ | ⟨g, cap, cur, e1, _, e3, e4, e5, e6, e7⟩
  · obtain rfl : L = [] := List.eq_nil_of_length_eq_zero e2
    exact ⟨Sv.nil, e1, rfl, Ps.nilS _ _⟩
  · subst e1
    refine ⟨⟨some ⟨g, 0, none⟩, L.length, cap⟩, rfl, rfl, rfl, e4, e5, (fun e => by cases e), fun hn => ⟨g, 0, rfl, ⟨hnw g rfl, how.lt rfl⟩, fun i t ht => ?_⟩, h.wf, hM⟩
    have hi := (List.getElem?_eq_some_iff.1 ht).1
    obtain ⟨b, t', h1, h2, h3⟩ := how.el i hi
    injection h1 with h1; injection h1 with h1; subst h1
    rw [ht] at h2; injection h2 with h2; subst h2
    rw [Nat.zero_add]; exact h3
theorem fewP_wf {p : Pt} (h : p.wfp) : (fewP p).wfp := ⟨h.i, h.s, h.o, h.k, h.w, h.c⟩
/-- The patches that few leaves. -/
def fewL (l : List Pt) : List Pt := (l.take 20).map fewP
set_option maxRecDepth 100000 in
set_option maxHeartbeats 4000000 in
theorem few15_any {w : World} {E : Nat → Prop} {s : Sv} {L : List Pe} (H : Ps w E s L) :
    Calls Try.prog 16 #[.slice s.a s.n s.c] w fun e w' => ∃ v L', e = .returned v ∧ FwI w w' v L' ∧ pts L' = fewL (pts L) := by
  have hcap : s.n ≤ 9223372036854775807 := by have := H.le; have := H.cap; unfold maxLen at this; omega
  have hlen := H.len
  obtain ⟨sa, sn, sc⟩ := s
  simp only at hcap hlen
  subst hlen
  have hlp : (pts L).length = L.length := by unfold pts; simp
  have start := FwI.made w w (Below.refl _ _)
  go_enter Try.func16, Try.ntmps16
  go_wp2_with fail
  generalize w.alloc (.cells #[] 27) = w0 at *
  generalize hv0 : Value.slice (some ⟨w.heap.size, 0, none⟩) 0 0 = v0 at *
  go_loopw [3, 4] (fun v i wr => ∃ (k : Nat) (L' : List Pe), k ≤ L.length ∧ k ≤ 20 ∧ i = .int .i64 (k : Int) ∧ FwI w wr v L' ∧ pts L' = ((pts L).take k).map fewP) (fun _ i _ => L.length - (intOf i).toNat)
  case atStart => exact ⟨0, [], Nat.zero_le _, Nat.zero_le _, rfl, start, rfl⟩
  case round =>
    clear start hv0
    obtain ⟨k, L', hk, hk2, rfl, I, hL⟩ := hrel
    have hll : L'.length = k := by have := congrArg List.length hL; unfold pts at this hlp; simp at this; omega
    obtain ⟨xa, xc, rfl, _, hx0⟩ := I.pu.ow.shape
    rw [hll] at I hx0 ⊢
    have hstop : (20 ≤ k ∨ L.length ≤ k) → pts L' = fewL (pts L) := fun h => by
      rw [hL]; unfold fewL
      rcases h with h | h
      · rw [show k = 20 by omega]
      · rw [List.take_of_length_le (by omega), List.take_of_length_le (by omega)]
    by_cases hkl : k < L.length
    · have a9 : (k : Int) < (L.length : Int) := by omega
      by_cases h20 : k < 20
      · have a8 : (k : Int) < 20 := by omega
        have Hr := H.later (w' := wr) I.pu.b
        obtain ⟨bb, o, e0, hbE, hcell⟩ := Hr.cell (by simpa using (by omega : 0 < L.length))
        simp only at e0
        subst e0
        obtain ⟨T, hT⟩ : ∃ T, L[k]? = some T := ⟨L[k], List.getElem?_eq_getElem hkl⟩
        have hrg := hcell k T hT
        have hmem := List.mem_of_getElem? hT
        have hwf := H.wf T hmem
        have hPM := Hr.ms T hmem
        have HF := few_any T.p T.d T.n hPM.bs hPM.is
        have hbig : L'.length + 1 ≤ 1000000 := by omega
        clear hcell hbE hPM hstop
        have t1 : True := trivial
        have t2 : True := trivial
        go_wp2_with (first
          | (clear t1; refine at_getE _ (by rfl) (by rfl) bb (o + k * 9) (by rfl) T hrg ?_)
          | (go_at_call 8; refine HF.mono ?_; rintro e w1 ⟨d', n', rfl, m1, b1, -, -, -⟩)
          | (clear t2; refine at_bsP _ (by rfl) (by rfl) (⟨fewP T.p, d', n'⟩ : Pe) (by rfl) ?_
             have b2 : Below w1.heap.size w1 (w1.alloc (.cells (⟨fewP T.p, d', n'⟩ : Pe).cs.toArray 27)) := (Below.refl _ w1).alloc (Nat.le_refl _) _
             have hnew := cell_new9 w1 (⟨fewP T.p, d', n'⟩ : Pe) 27)
          | (at_builtin; refine at_appR elP w.heap.size rfl _ _ (by rfl) (by rfl) (ro_later (ro_later I.pu.ow b1) b2) I.pu.nw (some ⟨w1.heap.size, 0, none⟩) 1 (⟨fewP T.p, d', n'⟩ : Pe).cs (by rfl) (by rfl) (fun e => by cases e) (fun ad e => by injection e with e; subst e; exact hnew) (Pe.cs_one _) hbig (Nat.le_trans I.pu.b.size (Nat.le_trans b1.size b2.size)) ?_; intro v' w9 hA; have I9 := I.app b1 b2 (fewP_wf hwf) m1 hA; clear hA))
        refine ⟨⟨k + 1, _, by omega, by omega, by go_num, I9, ?_⟩, by simp [intOf]; omega⟩
        have hg : (pts L)[k]? = some T.p := by unfold pts; rw [List.getElem?_map, hT]; rfl
        rw [List.take_add_one, hg, List.map_append, ← hL]
        unfold pts; simp
      · have a8 : ¬ (k : Int) < 20 := by omega
        have hst := hstop (.inl (by omega))
        go_wp2_with fail
        go_returns
        exact ⟨_, rfl, L', I, hst⟩
    · have a9 : ¬ (k : Int) < (L.length : Int) := by omega
      have hst := hstop (.inr (by omega))
      go_wp2_with fail
      go_returns
      exact ⟨_, rfl, L', I, hst⟩
section
variable {H : Type} {enc : TypeId × Value → H} {w : World} {base : Nat} {spare : Nat → Bool} {held : Bool}
theorem pts_of_trod {fuel : Nat} {cs : List Value} {x : DataW H × List MemPlace} (h : DataW.trod enc Try.prog w base spare held fuel 39 cs = some x) : ∃ a n c L, cs = [.slice a n c] ∧ Ps w (fun x => x < w.heap.size) ⟨a, n, c⟩ L := by
  have inE : ∀ (s : Sv) (l : List Int), BsS w s l → InE (fun x => x < w.heap.size) s := fun s l hs ad e hn => by
    obtain ⟨b, o, e2, hc⟩ := hs.cell hn
    rw [e] at e2; injection e2 with e2; subst e2
    exact World.block_lt_of_cell? w _ (hc 0 hn)
  have inI : ∀ (s : Sv) (l : List Int), InsS w s l → InE (fun x => x < w.heap.size) s := fun s l hs ad e hn => by
    obtain ⟨b, o, e2, hc⟩ := hs.i.cell hn
    rw [e] at e2; injection e2 with e2; subst e2
    exact World.block_lt_of_cell? w _ (hc 0 hn)
  rcases Deep.open_slice (e := 27) (by kernel_rfl) h with ⟨hcs, _⟩ | ⟨a, len, cap, m, n, D, Pl, hcs, _, hl, hm, hmm, _, hx⟩
  · exact ⟨none, 0, 0, [], hcs, Ps.nilS _ _⟩
  · have c9 : Try.prog.cellsOf 27 = 9 := by kernel_rfl
    have hlm : len ≤ m := by rw [hmm]; split <;> omega
    have each : ∀ i, i < len → ∃ y : Pe, (∀ j v, y.cs[j]? = some v → w.cell? (a.add (i * 9 + j)) = some v) ∧ y.p.wfp ∧ BsS w y.d y.p.data ∧ InsS w y.n y.p.needs := fun i hi => by
      obtain ⟨cs', h1, h2⟩ := hx i (by omega)
      rw [c9] at h1
      obtain ⟨p, d, n, e1, e2, e3, e4⟩ := pt_of_trod h2
      obtain ⟨_, hlen, hcell⟩ := World.cells?_some h1
      refine ⟨⟨p, d, n⟩, fun j v hv => ?_, e2, e3, e4⟩
      have hj : j < 9 := by have := (List.getElem?_eq_some_iff.1 hv).1; rw [Pe.cs_len] at this; exact this
      have := hcell j hj
      have e1' : (⟨p, d, n⟩ : Pe).cs = cs' := e1
      rw [Deep.add_add, ← e1', hv] at this
      exact this
    have hspec : ∀ t ∈ ((List.range len).map fun i => if hi : i < len then Classical.choose (each i hi) else Pe.zero), t.p.wfp ∧ BsS w t.d t.p.data ∧ InsS w t.n t.p.needs := fun t ht => by
      obtain ⟨i, hi, rfl⟩ := List.mem_map.1 ht
      have hi' : i < len := by simpa using hi
      simp only [dif_pos hi']
      exact (Classical.choose_spec (each i hi')).2
    refine ⟨_, _, _, (List.range len).map fun i => if hi : i < len then Classical.choose (each i hi) else Pe.zero, hcs, by simp, hl, hm, (fun e => by cases e), fun hn => ?_, fun t ht => (hspec t ht).1, fun t ht => ⟨(hspec t ht).2.1, (hspec t ht).2.2, inE _ _ (hspec t ht).2.1, inI _ _ (hspec t ht).2.2⟩⟩
    obtain ⟨b, o, spot⟩ := a
    have h00 : w.cell? ((⟨b, o, spot⟩ : Addr).add (0 * 9 + 0)) ≠ none := by
      obtain ⟨y, hy, _⟩ := each 0 hn
      rw [hy 0 (.int .i64 y.p.id) rfl]; simp
    have hspot : spot = none := by
      obtain ⟨y, hy, _⟩ := each 0 hn
      have := hy 0 (.int .i64 y.p.id) rfl
      simpa [Addr.add] using World.cell?_spot this
    subst hspot
    have hblt : b < w.heap.size := by
      obtain ⟨y, hy, _⟩ := each 0 hn
      have := hy 0 (.int .i64 y.p.id) rfl
      exact World.block_lt_of_cell? w _ this
    refine ⟨b, o, rfl, hblt, fun i t ht => ?_⟩
    have hi : i < len := by have := (List.getElem?_eq_some_iff.1 ht).1; simpa using this
    rw [List.getElem?_map, List.getElem?_range hi] at ht
    simp only [Option.map_some, dif_pos hi, Option.some.injEq] at ht
    subst ht
    intro j v hv
    have := (Classical.choose_spec (each i hi)).1 j v hv
    rw [Addr.add_mid] at this
    rw [show o + i * 9 + j = o + (i * 9 + j) by omega]; exact this
end
end Go.Proofs.Yteceapdkgidenaa
