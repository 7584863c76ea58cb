/-
  Loads and sectors that come in at a statement: no statement is proved here.
-/
import Derived.Test.YteceapdkgidenaaRows
import Derived.Test.YteceapdkgidenaaPlain2
import Derived.Test.YteceapdkgidenaaRoN
import Derived.Test.YteceapdkgidenaaRoX
import Derived.Test.YteceapdkgidenaaSealA
import Derived.OpenShut
namespace Go.Proofs.Yteceapdkgidenaa
open Go.ChangeShapes Go.WideShapes Go.ChangeAt Go.RowKit
set_option linter.unusedVariables false

/-- Which one of n. -/
def among (x : Int) (n : Nat) : Nat := (x % 18446744073709551616 % n).toNat
theorem among_lt (x : Int) (n : Nat) (h : 0 < n) : among x n < n := by
  unfold among
  have h1 := Int.emod_nonneg (x % 18446744073709551616) (show (n : Int) ≠ 0 by omega)
  have h2 := Int.emod_lt_of_pos (x % 18446744073709551616) (show (0 : Int) < (n : Int) by omega)
  omega
theorem among_any (x : Int) (n : Nat) (w : World) (hn : 0 < n) (hm : n ≤ 1000000000000) :
    Calls Try.prog 25 #[.int .i64 x, .int .i64 (n : Int)] w fun e w' => e = .returned (.int .i64 (among x n : Nat)) ∧ w = w' := by
  have h1 := Int.emod_nonneg x (show (18446744073709551616 : Int) ≠ 0 by omega)
  have h2 := Int.emod_lt_of_pos x (show (0 : Int) < (18446744073709551616 : Int) by omega)
  have h3 := Int.emod_nonneg (x % 18446744073709551616) (show (n : Int) ≠ 0 by omega)
  have h4 := Int.emod_lt_of_pos (x % 18446744073709551616) (show (0 : Int) < (n : Int) by omega)
  have e : Hid ((among x n : Int) = x % 18446744073709551616 % n) := by show _ = _; unfold among; omega
  have e1 : IntKind.u64.wrap x = x % 18446744073709551616 := by first | exact IntKind.wrap_u64 x | exact IntKind.wrap_u64' x
  have e2 : (x % 18446744073709551616).tmod n = x % 18446744073709551616 % n := Int.tmod_eq_emod_of_nonneg h1
  go_enter Try.func25, Try.ntmps25
  go_wp2
  go_returns
  exact ⟨ret_int (by rw [e.out]), rfl⟩
end Go.Proofs.Yteceapdkgidenaa
namespace Go.Proofs.Yteceapdkgidenaa
set_option linter.unusedVariables false
set_option linter.unusedSimpArgs false

/-- What is made of the patch at i. -/
def mdP (K : Int) (i : Nat) (p : Pt) : Pt := { p with id := (i : Int) + 1, off := (among p.off 40 : Nat), data := p.data.take 8, kind := K }
def mdT (K : Int) (i : Nat) (T : Pe) : Pe := ⟨mdP K i T.p, ⟨T.d.a, min T.d.n 8, T.d.c⟩, T.n⟩
/-- The first i of them are so. -/
def mdL (K : Int) (L : List Pe) (i : Nat) : List Pe := L.mapIdx fun j T => if j < i then mdT K j T else T
theorem mdL_len (K : Int) (L : List Pe) (i : Nat) : (mdL K L i).length = L.length := by unfold mdL; simp
theorem mdL_get {K : Int} {L : List Pe} {i j : Nat} : (mdL K L i)[j]? = L[j]?.map fun T => if j < i then mdT K j T else T := by unfold mdL; rw [List.getElem?_mapIdx]
theorem mdL_lt {K : Int} {L : List Pe} {i j : Nat} {T : Pe} (h : L[j]? = some T) (hj : j < i) : (mdL K L i)[j]? = some (mdT K j T) := by rw [mdL_get, h]; simp [hj]
theorem mdL_ge {K : Int} {L : List Pe} {i j : Nat} {T : Pe} (h : L[j]? = some T) (hj : i ≤ j) : (mdL K L i)[j]? = some T := by rw [mdL_get, h]; simp; omega
theorem mdL_zero (K : Int) (L : List Pe) : mdL K L 0 = L := by
  apply List.ext_getElem?
  intro j
  rw [mdL_get]
  cases L[j]? <;> simp
theorem mdL_set {K : Int} {L : List Pe} {i : Nat} {T : Pe} (h : L[i]? = some T) : (mdL K L i).set i (mdT K i T) = mdL K L (i + 1) := by
  have hi := (List.getElem?_eq_some_iff.1 h).1
  apply List.ext_getElem?
  intro j
  rw [List.getElem?_set, mdL_len, mdL_get, mdL_get]
  by_cases hj : i = j
  · subst hj
    rw [if_pos rfl, if_pos hi, h]; simp
  · rw [if_neg hj]
    cases L[j]? with
    | none => rfl
    | some U =>
      simp only [Option.map_some, Option.some.injEq]
      by_cases h1 : j < i
      · rw [if_pos h1, if_pos (by omega)]
      · rw [if_neg h1, if_neg (by omega)]
theorem mdL_take {K : Int} {L : List Pe} {i : Nat} {T : Pe} (h : L[i]? = some T) : (mdL K L (i + 1)).take (i + 1) = (mdL K L i).take i ++ [mdT K i T] := by
  have hi := (List.getElem?_eq_some_iff.1 h).1
  have e : (mdL K L (i + 1)).take i = (mdL K L i).take i := by
    apply List.ext_getElem?
    intro j
    rw [List.getElem?_take, List.getElem?_take, mdL_get, mdL_get]
    by_cases hj : j < i
    · rw [if_pos hj, if_pos hj]
      cases L[j]? with
      | none => rfl
      | some U => simp only [Option.map_some]; rw [if_pos (by omega), if_pos hj]
    · rw [if_neg hj, if_neg hj]
  rw [List.take_add_one, e, mdL_lt h (by omega)]; rfl
theorem mdL_mem {K : Int} {L : List Pe} {i : Nat} {T : Pe} (h : T ∈ (mdL K L i).take i) : ∃ (j : Nat) (U : Pe), j < i ∧ L[j]? = some U ∧ T = mdT K j U := by
  obtain ⟨j, hj⟩ := List.mem_iff_getElem?.1 h
  rw [List.getElem?_take] at hj
  by_cases h1 : j < i
  · rw [if_pos h1, mdL_get] at hj
    cases hU : L[j]? with
    | none => rw [hU] at hj; cases hj
    | some U =>
      rw [hU] at hj
      simp only [Option.map_some, if_pos h1, Option.some.injEq] at hj
      exact ⟨j, U, h1, hU, hj.symm⟩
  · rw [if_neg h1] at hj; cases hj
/-- The numbers that are taken first, and what they leave. -/
structure RpP (K : Int) (L : List Pe) (i : Nat) (idl : List Int) : Prop where
  n : idl.length ≤ i
  b : ∀ x ∈ idl, 1 ≤ x ∧ x ≤ (i : Int)
  p : ∀ (a c : Nat) (A C : Pe), a < c → c < i → L[a]? = some A → L[c]? = some C → hsI idl ((a : Int) + 1) = false → hsI idl ((c : Int) + 1) = true → ¬ ovl (mdP K a A.p) (mdP K c C.p)
def fsL (K : Int) (L : List Pe) (i : Nat) (idl : List Int) : List Pe := ((mdL K L i).take i).filter fun T => hsI idl T.p.id
theorem RpP.zero (K : Int) (L : List Pe) : RpP K L 0 [] := ⟨Nat.le_refl _, (fun x hx => by cases hx), fun a c A C h1 h2 => by omega⟩
theorem RpP.no {K : Int} {L : List Pe} {i : Nat} {idl : List Int} (h : RpP K L i idl) : hsI idl ((i : Int) + 1) = false := by
  cases e : hsI idl ((i : Int) + 1) with
  | false => rfl
  | true => have := h.b _ ((hsI_iff _ _).1 e); omega
theorem RpP.skip {K : Int} {L : List Pe} {i : Nat} {idl : List Int} (h : RpP K L i idl) : RpP K L (i + 1) idl := by
  refine ⟨by have := h.n; omega, fun x hx => ?_, fun a c A C h1 h2 h3 h4 h5 h6 => ?_⟩
  · have := h.b x hx; omega
  · by_cases hc : c < i
    · exact h.p a c A C h1 hc h3 h4 h5 h6
    · obtain rfl : c = i := by omega
      rw [h.no] at h6; cases h6
theorem hsI_app (l : List Int) (y x : Int) : hsI (l ++ [y]) x = (hsI l x || (y == x)) := by unfold hsI; simp
theorem RpP.take {K : Int} {L : List Pe} {i : Nat} {idl : List Int} {T : Pe} (h : RpP K L i idl) (hT : L[i]? = some T) (hn : ∀ (a : Nat) (A : Pe), a < i → L[a]? = some A → hsI idl ((a : Int) + 1) = false → ¬ ovl (mdP K a A.p) (mdP K i T.p)) : RpP K L (i + 1) (idl ++ [(i : Int) + 1]) := by
  refine ⟨by rw [List.length_append]; have := h.n; simp; omega, fun x hx => ?_, fun a c A C h1 h2 h3 h4 h5 h6 => ?_⟩
  · rcases List.mem_append.1 hx with hx | hx
    · have := h.b x hx; omega
    · rw [List.mem_singleton] at hx; omega
  · rw [hsI_app, Bool.or_eq_false_iff] at h5
    by_cases hc : c < i
    · rw [hsI_app] at h6
      have : ((i : Int) + 1 == (c : Int) + 1) = false := by rw [beq_eq_false_iff_ne]; omega
      rw [this, Bool.or_false] at h6
      exact h.p a c A C h1 hc h3 h4 h5.1 h6
    · obtain rfl : c = i := by omega
      rw [hT] at h4; injection h4 with h4; subst h4
      exact hn a A h1 h3 h5.1
theorem fsL_zero (K : Int) (L : List Pe) : fsL K L 0 [] = [] := by unfold fsL; simp
theorem fsL_skip {K : Int} {L : List Pe} {i : Nat} {idl : List Int} {T : Pe} (h : RpP K L i idl) (hT : L[i]? = some T) : fsL K L (i + 1) idl = fsL K L i idl := by
  unfold fsL
  rw [mdL_take hT, List.filter_append]
  have : hsI idl (mdT K i T).p.id = false := h.no
  simp [List.filter_cons, this]
theorem fsL_take {K : Int} {L : List Pe} {i : Nat} {idl : List Int} {T : Pe} (hT : L[i]? = some T) : fsL K L (i + 1) (idl ++ [(i : Int) + 1]) = fsL K L i idl ++ [mdT K i T] := by
  unfold fsL
  rw [mdL_take hT, List.filter_append]
  congr 1
  · refine List.filter_congr fun U hU => ?_
    obtain ⟨j, V, hj, _, rfl⟩ := mdL_mem hU
    rw [hsI_app]
    have : ((i : Int) + 1 == (mdT K j V).p.id) = false := by rw [beq_eq_false_iff_ne]; show _ ≠ (j : Int) + 1; omega
    rw [this, Bool.or_false]
  · have : hsI (idl ++ [(i : Int) + 1]) (mdT K i T).p.id = true := by
      rw [hsI_app]
      have : ((i : Int) + 1 == (mdT K i T).p.id) = true := by rw [beq_iff_eq]; rfl
      rw [this, Bool.or_true]
    simp [List.filter_cons, this]
theorem fsL_end (K : Int) (L : List Pe) (idl : List Int) : pts (fsL K L L.length idl) = smP (pts (mdL K L L.length)) idl := by
  unfold fsL
  rw [List.take_of_length_le (by rw [mdL_len]; omega)]
  exact pts_filter _ (fun p => hsI idl p.id)
theorem mdP_fit {k : Nat} (h1 : 1 ≤ k) (h6 : k ≤ 6) (i : Nat) (p : Pt) : rfit (mdP (k : Int) i p) = true := by
  have ha := among_lt p.off 40 (by omega)
  have hl : (p.data.take 8).length ≤ 8 := by simp; omega
  unfold rfit room mdP
  simp only [Bool.and_eq_true, decide_eq_true_eq]
  rw [if_neg (by omega)]
  omega
/-- All in all. -/
theorem parts_end {k : Nat} (h1 : 1 ≤ k) (h6 : k ≤ 6) {L : List Pe} {idl : List Int} (h : RpP (k : Int) L L.length idl) (b : Blk) :
    nwE (pts (mdL (k : Int) L L.length)) = 0 ∧ nwE (smP (pts (mdL (k : Int) L L.length)) idl) = 0 ∧ nwE (woP (pts (mdL (k : Int) L L.length)) idl) = 0 ∧ sm2 (nwB b (pts (mdL (k : Int) L L.length))) (nwB (nwB b (smP (pts (mdL (k : Int) L L.length)) idl)) (woP (pts (mdL (k : Int) L L.length)) idl)) = true := by
  have hel : ∀ p ∈ pts (mdL (k : Int) L L.length), ∃ (j : Nat) (U : Pe), L[j]? = some U ∧ p = mdP (k : Int) j U.p := fun p hp => by
    unfold pts at hp
    obtain ⟨T, hT, rfl⟩ := List.mem_map.1 hp
    obtain ⟨j, U, _, hU, rfl⟩ := mdL_mem (K := (k : Int)) (L := L) (i := L.length) (by rw [List.take_of_length_le (by rw [mdL_len]; omega)]; exact hT)
    exact ⟨j, U, hU, rfl⟩
  refine roll_parts b _ (fun p => hsI idl p.id) k h1 h6 (fun p hp => ?_) (fun p hp => ?_) ?_
  · obtain ⟨j, U, _, rfl⟩ := hel p hp; rfl
  · obtain ⟨j, U, _, rfl⟩ := hel p hp; exact mdP_fit h1 h6 j U.p
  · rw [List.pairwise_iff_getElem]
    intro a c ha hc hac h2 h3
    have la : a < L.length := by rw [pts_len', mdL_len] at ha; exact ha
    have lc : c < L.length := by rw [pts_len', mdL_len] at hc; exact hc
    have get : ∀ (x : Nat) (hx : x < (pts (mdL (k : Int) L L.length)).length) (lx : x < L.length), (pts (mdL (k : Int) L L.length))[x] = mdP (k : Int) x (L[x]).p := fun x hx lx => by
      have : (pts (mdL (k : Int) L L.length))[x]? = some (mdP (k : Int) x (L[x]).p) := by
        unfold pts
        rw [List.getElem?_map, mdL_lt (List.getElem?_eq_getElem lx) lx]; rfl
      rw [List.getElem?_eq_getElem hx] at this
      injection this
    rw [get a ha la] at h2 ⊢
    rw [get c hc lc] at h3 ⊢
    exact h.p a c _ _ hac lc (List.getElem?_eq_getElem la) (List.getElem?_eq_getElem lc) h2 h3
end Go.Proofs.Yteceapdkgidenaa
namespace Go.Proofs.Yteceapdkgidenaa
open Go.ChangeShapes Go.WideShapes Go.ChangeAt Go.RowKit
set_option linter.unusedVariables false
set_option linter.unusedSimpArgs false

/-- The list vl reads as M, vf as Fs, vi as idl; the sector lies at g4. What vl's patches hold was there in W; vf and vi are younger. -/
structure RpJ (w1 W : World) (vl : Value) (g4 : Nat) (b : Blk) (M Fs : List Pe) (idl : List Int) (vf vi : Value) (wr : World) : Prop where
  ow : OwP wr vl M
  nl : New w1.heap.size vl
  lo : ∀ r, vl.ownBlock = some r → r < W.heap.size
  ms : ∀ T ∈ M, PtM wr (fun x => w1.heap.size ≤ x ∧ x < W.heap.size ∧ vl.ownBlock ≠ some x) T.p T.d T.n
  wf : ∀ T ∈ M, T.p.wfp
  ff : PuI w1 wr vf Fs
  fn : New W.heap.size vf
  iw : OwV wr vi idl
  inn : New W.heap.size vi
  ne : ∀ r, vf.ownBlock = some r → vi.ownBlock ≠ some r
  rb : Row wr g4 b.l
  g4l : g4 < w1.heap.size
  sz : W.heap.size ≤ wr.heap.size
  w1W : w1.heap.size ≤ W.heap.size
section
variable {w1 W wr w' : World} {vl vf vi : Value} {g4 : Nat} {b : Blk} {M Fs : List Pe} {idl : List Int}
theorem RpJ.later (h : RpJ w1 W vl g4 b M Fs idl vf vi wr) (k : Below wr.heap.size wr w') : RpJ w1 W vl g4 b M Fs idl vf vi w' :=
  ⟨h.ow.later k, h.nl, h.lo, fun T hT => (h.ms T hT).later k, h.wf, h.ff.later k, h.fn, h.iw.later k, h.inn, h.ne, h.rb.later k, h.g4l, Nat.le_trans h.sz k.size, h.w1W⟩
/-- A cell of one of vl's patches is set. -/
theorem RpJ.set {bl n c : Nat} (h : RpJ w1 W (.slice (some ⟨bl, 0, none⟩) n c) g4 b M Fs idl vf vi wr) (hn : M.length = n) (k j : Nat) (t t' : Pe) (v : Value) (hk : M[k]? = some t) (hj : j < 9) (e : t'.cs = t.cs.set j v)
    (hm : PtM wr (fun x => w1.heap.size ≤ x ∧ x < W.heap.size ∧ (Value.slice (some ⟨bl, 0, none⟩) n c).ownBlock ≠ some x) t'.p t'.d t'.n) (hwf : t'.p.wfp) :
    RpJ w1 W (.slice (some ⟨bl, 0, none⟩) n c) g4 b (M.set k t') Fs idl vf vi (wr.setCell ⟨bl, k * 9 + j, none⟩ v) := by
  subst hn
  have st : Stp (fun x => x = bl) wr (wr.setCell ⟨bl, k * 9 + j, none⟩ v) := (Stp.refl (fun x => x = bl) wr).setCell (p := ⟨bl, k * 9 + j, none⟩) (.inl rfl) v
  have hob : (Value.slice (some ⟨bl, 0, none⟩) M.length c).ownBlock = some bl := rfl
  have hbl := h.lo bl rfl
  have hb1 := h.nl bl rfl
  have hg := h.g4l
  have hE : ∀ x, (w1.heap.size ≤ x ∧ x < W.heap.size ∧ (Value.slice (some ⟨bl, 0, none⟩) M.length c).ownBlock ≠ some x) → ¬ x = bl := fun x hx e => hx.2.2 (by rw [e]; rfl)
  refine ⟨h.ow.set k j t t' v hk hj e, h.nl, h.lo, fun T hT => ?_, fun T hT => ?_, ?_, h.fn, h.iw.step st (fun r hr e => ?_), h.inn, h.ne, h.rb.step st (by omega), h.g4l, Nat.le_trans h.sz st.size, h.w1W⟩
  · rcases List.mem_or_eq_of_mem_set hT with hT | rfl
    · exact (h.ms T hT).step st hE
    · exact hm.step st hE
  · rcases List.mem_or_eq_of_mem_set hT with hT | rfl
    · exact h.wf T hT
    · exact hwf
  · refine ⟨h.ff.ow.step st (fun r hr e => ?_), h.ff.nw, ((Stp.of_below h.ff.b (fun x => w1.heap.size ≤ x)).next st (fun x e => .inl (by subst e; exact hb1))).below (Nat.le_refl _) (fun _ h => h)⟩
    have := h.fn r hr; omega
  · have := h.inn r hr; omega
/-- One more is taken first. -/
theorem RpJ.appF {u : World} {vf' : Value} {t : Pe} (h : RpJ w1 W vl g4 b M Fs idl vf vi wr) (k : Below wr.heap.size wr u) (hA : Apd u w1.heap.size 27 9 vf Fs.length 1 (fl Fs ++ t.cs) vf' w') : RpJ w1 W vl g4 b M (Fs ++ [t]) idl vf' vi w' := by
  have h' := h.later k
  have hP := h.ff.app k hA
  obtain ⟨h1, h2, h3, h4, h5⟩ := hA
  have hlo := h.lo
  have hg := h.g4l
  have hw := h.w1W
  have hus := h'.sz
  have hold : ∀ x, x < W.heap.size → vf.ownBlock ≠ some x := fun x hx e => by have := h.fn x e; omega
  refine ⟨h'.ow.step h4 (fun r hr e => hold r (hlo r hr) e), h.nl, h.lo, fun T hT => (h'.ms T hT).step h4 (fun x hx e => hold x hx.2.1 e), h.wf, hP, fun r hr => ?_, h'.iw.step h4 (fun r hr e => h.ne r e hr), h.inn, fun r hr hi => ?_, h'.rb.step h4 (fun e => hold g4 (by omega) e), h.g4l, Nat.le_trans hus h4.size, hw⟩
  · rcases h3 with h3 | ⟨h3, _⟩
    · exact h.fn r (by rw [← h3]; exact hr)
    · rw [h3] at hr; injection hr with hr; omega
  · rcases h3 with h3 | ⟨h3, _⟩
    · exact h.ne r (by rw [← h3]; exact hr) hi
    · rw [h3] at hr; injection hr with hr
      have := h'.iw.lt hi; omega
/-- Its number is taken down. -/
theorem RpJ.appI {u : World} {vi' : Value} {x : Int} (h : RpJ w1 W vl g4 b M Fs idl vf vi wr) (k : Below wr.heap.size wr u) (hA : Apd u w1.heap.size 3 1 vi idl.length 1 (idl.map (Value.int .i64) ++ [.int .i64 x]) vi' w') : RpJ w1 W vl g4 b M Fs (idl ++ [x]) vf vi' w' := by
  have h' := h.later k
  obtain ⟨h1, h2, h3, h4, h5⟩ := hA
  have hlo := h.lo
  have hg := h.g4l
  have hw := h.w1W
  have hus := h'.sz
  have hold : ∀ x, x < W.heap.size → vi.ownBlock ≠ some x := fun x hx e => by have := h.inn x e; omega
  refine ⟨h'.ow.step h4 (fun r hr e => hold r (hlo r hr) e), h.nl, h.lo, fun T hT => (h'.ms T hT).step h4 (fun x hx e => hold x hx.2.1 e), h.wf, ⟨h'.ff.ow.step h4 (fun r hr e => h.ne r hr e), h.ff.nw, ((Stp.of_below h'.ff.b (fun x => w1.heap.size ≤ x)).next h4 (fun x e => .inl (Nat.le_trans hw (h.inn x e)))).below (Nat.le_refl _) (fun _ h => h)⟩, h.fn, ?_, fun r hr => ?_, fun r hr hi => ?_, h'.rb.step h4 (fun e => hold g4 (by omega) e), h.g4l, Nat.le_trans hus h4.size, hw⟩
  · unfold OwV; rw [List.map_append, List.length_append]; exact h1
  · rcases h3 with h3 | ⟨h3, _⟩
    · exact h.inn r (by rw [← h3]; exact hr)
    · rw [h3] at hr; injection hr with hr; omega
  · rcases h3 with h3 | ⟨h3, _⟩
    · exact h.ne r hr (by rw [← h3]; exact hi)
    · rw [h3] at hi; injection hi with hi
      have := h'.ff.ow.lt hr; omega
/-- .. as slices that are read. -/
theorem RpJ.psl (h : RpJ w1 W vl g4 b M Fs idl vf vi wr) : ∃ s : Sv, vl = .slice s.a s.n s.c ∧ PsL wr s (pts M) := by
  obtain ⟨s, e, _, hp⟩ := PuI.ps (w := w1) (wr := wr) (v := vl) (M := M) ⟨h.ow, h.nl, h.ff.b⟩ h.wf (fun T hT => (h.ms T hT).mono (fun x hx => Nat.lt_of_lt_of_le hx.2.1 h.sz))
  exact ⟨s, e, M, hp, rfl⟩
theorem RpJ.psf (h : RpJ w1 W vl g4 b M Fs idl vf vi wr) (hF : ∀ T ∈ Fs, T ∈ M) : ∃ s : Sv, vf = .slice s.a s.n s.c ∧ PsL wr s (pts Fs) := by
  obtain ⟨s, e, _, hp⟩ := h.ff.ps (fun T hT => h.wf T (hF T hT)) (fun T hT => (h.ms T (hF T hT)).mono (fun x hx => Nat.lt_of_lt_of_le hx.2.1 h.sz))
  exact ⟨s, e, Fs, hp, rfl⟩
theorem RpJ.ids (h : RpJ w1 W vl g4 b M Fs idl vf vi wr) (hw : ∀ x ∈ idl, wfi x) : ∃ s : Sv, vi = .slice s.a s.n s.c ∧ InsS wr s idl := by
  obtain ⟨s, e, _, hi, _⟩ := h.iw.ins hw h.inn
  exact ⟨s, e, hi⟩
end
/-- Stores into the patches of vl. -/
theorem OwP.at' {w : World} {bl n c : Nat} {M : List Pe} (h : OwP w (.slice (some ⟨bl, 0, none⟩) n c) M) (hn : M.length = n) (k : Nat) (t : Pe) (hk : M[k]? = some t) : w.rangeAt bl (k * 9) t.cs ∧ (∀ j, w.frozen? ⟨bl, j, none⟩ = false) := by
  subst hn
  have hlt := (List.getElem?_eq_some_iff.1 hk).1
  obtain ⟨b', t', e1, e2, e3⟩ := h.el k hlt
  injection e1 with e1; injection e1 with e1; subst e1
  rw [hk] at e2; injection e2 with e2; subst e2
  obtain ⟨b'', e4, _, hf⟩ := h.cells (by omega)
  injection e4 with e4; injection e4 with e4; subst e4
  exact ⟨e3, hf⟩
section
variable {ops : Array Oper} {rest : List Oper} {o : Oper} {a : Act} {w w1 W : World} {Q : Exit → Act → World → Prop} {vf vi : Value} {g4 : Nat} {b : Blk} {M Fs : List Pe} {idl : List Int}
theorem at_setJ (hw : Region.wanted o (yielded ops a.tmps) = true) (x y : Operand) (ho : o.op = .store 3 x y) {bl n c : Nat} (h : RpJ w1 W (.slice (some ⟨bl, 0, none⟩) n c) g4 b M Fs idl vf vi w) (hn : M.length = n) (k j ad : Nat) (had : ad = k * 9 + j) (hx : a.eval x = .pointer (some ⟨bl, ad, none⟩)) (t t' : Pe) (z : Int) (hy : a.eval y = .int .i64 z) (hk : M[k]? = some t) (hj : j < 9) (e : t'.cs = t.cs.set j (.int .i64 z))
    (hd : t'.p.data = t.p.data) (hnd : t'.p.needs = t.p.needs) (hsd : t'.d = t.d) (hsn : t'.n = t.n) (hwf : t'.p.wfp)
    (hc : ∀ w', RpJ w1 W (.slice (some ⟨bl, 0, none⟩) n c) g4 b (M.set k t') Fs idl vf vi w' → wpList Try.prog ops Q rest (a.put o.dst undef) w') : wpList Try.prog ops Q (o :: rest) a w := by
  subst had
  have hm0 := h.ms t (List.mem_of_getElem? hk)
  have hm : PtM w (fun x => w1.heap.size ≤ x ∧ x < W.heap.size ∧ (Value.slice (some ⟨bl, 0, none⟩) n c).ownBlock ≠ some x) t'.p t'.d t'.n := by
    rw [hsd, hsn]; exact ⟨by rw [hd]; exact hm0.bs, by rw [hnd]; exact hm0.is, hm0.ed, hm0.en⟩
  obtain ⟨hr, hf⟩ := h.ow.at' hn k t hk
  have hcell := hr j _ (List.getElem?_eq_getElem (by rw [Pe.cs_len]; exact hj))
  have hfr := hf (k * 9 + j)
  refine op_unit hw _ ?_ (hc _ (h.set hn k j t t' (.int .i64 z) hk hj e hm hwf))
  have hs : (Try.prog.info? 3).map (·.size) = some 1 := by kernel_rfl
  have hu : Try.prog.underlying 3 = some (.int .i64) := by kernel_rfl
  simp [execOp, ho, hx, hy, Instr.storeAt, Instr.sureAddr]
  go_simp
theorem at_setJs (hw : Region.wanted o (yielded ops a.tmps) = true) (x y : Operand) (ho : o.op = .store 24 x y) {bl n c : Nat} (h : RpJ w1 W (.slice (some ⟨bl, 0, none⟩) n c) g4 b M Fs idl vf vi w) (hn : M.length = n) (k : Nat) (hx : a.eval x = .pointer (some ⟨bl, k * 9 + 3, none⟩)) (t t' : Pe) (d : Sv) (hy : a.eval y = .slice d.a d.n d.c) (hk : M[k]? = some t) (e : t'.cs = t.cs.set 3 (.slice d.a d.n d.c))
    (hm : PtM w (fun x => w1.heap.size ≤ x ∧ x < W.heap.size ∧ (Value.slice (some ⟨bl, 0, none⟩) n c).ownBlock ≠ some x) t'.p t'.d t'.n) (hwf : t'.p.wfp)
    (hc : ∀ w', RpJ w1 W (.slice (some ⟨bl, 0, none⟩) n c) g4 b (M.set k t') Fs idl vf vi w' → wpList Try.prog ops Q rest (a.put o.dst undef) w') : wpList Try.prog ops Q (o :: rest) a w := by
  obtain ⟨hr, hf⟩ := h.ow.at' hn k t hk
  have hcell := hr 3 _ (List.getElem?_eq_getElem (by rw [Pe.cs_len]; omega))
  have hfr := hf (k * 9 + 3)
  refine op_unit hw _ ?_ (hc _ (h.set hn k 3 t t' (.slice d.a d.n d.c) hk (by omega) e hm hwf))
  simp [execOp, ho, hx, hy, Instr.storeAt, Instr.sureAddr]
  go_simp
theorem build_oneI (y : Int) (w : World) : (Instr.buildSlice 25 1 #[(0, .int .i64 y)]).run Try.prog w = .ok (.slice (some ⟨w.heap.size, 0, none⟩) 1 1) (w.alloc (.cells #[.int .i64 y] 3)) := by kernel_rfl
theorem at_bsI (x : Operand) (ho : o.op = .buildSlice 25 1 #[(0, x)]) (hw : Region.wanted o (yielded ops a.tmps) = true) (y : Int) (hx : a.eval x = .int .i64 y)
    (h : wpList Try.prog ops Q rest (a.put o.dst (.slice (some ⟨w.heap.size, 0, none⟩) 1 1)) (w.alloc (.cells #[.int .i64 y] 3))) : wpList Try.prog ops Q (o :: rest) a w := by
  refine op_val hw _ _ ?_ h
  simp [execOp, ho, hx, build_oneI]
end
/-- A slice of bools. -/
structure Bos (w : World) (a : Option Addr) (n c : Nat) (l : List Bool) : Prop where
  len : l.length = n
  cap : n ≤ 9223372036854775807
  cell : 0 < n → ∃ b o, a = some ⟨b, o, none⟩ ∧ ∀ i, i < n → w.cell? ⟨b, o + i, none⟩ = some (.bool (l.getD i false))
theorem Bos.later {w w' : World} {a : Option Addr} {n c : Nat} {l : List Bool} (h : Bos w a n c l) (k : Below w.heap.size w w') : Bos w' a n c l :=
  ⟨h.len, h.cap, fun hn => by
    obtain ⟨b, o, e, hc⟩ := h.cell hn
    exact ⟨b, o, e, fun i hi => by rw [k.cell (World.block_lt_of_cell? w _ (hc i hi))]; exact hc i hi⟩⟩
section
variable {H : Type} {enc : TypeId × Value → H} {w : World} {base : Nat} {spare : Nat → Bool} {held : Bool}
theorem bos_of_trod {fuel : Nat} {cs : List Value} {x : DataW H × List MemPlace} (h : DataW.trod enc Try.prog w base spare held fuel 50 cs = some x) : ∃ a n c l, cs = [.slice a n c] ∧ Bos w a n c l := by
  rcases Deep.open_slice (e := 4) (by kernel_rfl) h with ⟨hcs, _⟩ | ⟨a, len, cap, m, n, D, Pl, hcs, _, hl, hm, hmm, _, hx⟩
  · exact ⟨none, 0, 0, [], hcs, rfl, by omega, fun h => absurd h (by omega)⟩
  · have c1 : Try.prog.cellsOf 4 = 1 := by kernel_rfl
    have hub : Try.prog.underlying 4 = some .bool := by kernel_rfl
    have hlm : len ≤ m := by rw [hmm]; split <;> omega
    have each : ∀ i, i < len → ∃ y : Bool, w.cell? (a.add i) = some (.bool y) := fun i hi => by
      obtain ⟨cs', h1, h2⟩ := hx i (by omega)
      rw [c1] at h1
      obtain ⟨y, e1, _⟩ := DataW.trod_bool hub h2
      obtain ⟨_, hlen, hcell⟩ := World.cells?_some h1
      have := hcell 0 (by omega)
      rw [Deep.add_add, e1] at this
      refine ⟨y, ?_⟩
      simpa using this
    refine ⟨_, _, _, (List.range len).map fun i => if hi : i < len then Classical.choose (each i hi) else false, hcs, by simp, by unfold maxLen at hm; omega, fun hn => ?_⟩
    obtain ⟨b, o, spot⟩ := a
    have hspot : spot = none := by
      obtain ⟨y, hy⟩ := each 0 hn
      simpa [Addr.add] using World.cell?_spot hy
    subst hspot
    refine ⟨b, o, rfl, fun i hi => ?_⟩
    have := Classical.choose_spec (each i hi)
    refine (show w.cell? ⟨b, o + i, none⟩ = w.cell? ((⟨b, o, none⟩ : Addr).add i) by rw [Addr.add_mid]).trans (this.trans ?_)
    rw [List.getD_eq_getElem?_getD, List.getElem?_map, List.getElem?_range hi]
    simp [hi]
end
end Go.Proofs.Yteceapdkgidenaa
namespace Go.Proofs.Yteceapdkgidenaa
open Go.ChangeShapes Go.WideShapes Go.ChangeAt Go.RowKit
set_option linter.unusedVariables false
set_option linter.unusedSimpArgs false

theorem RpJ.start {w1 W : World} {v : Value} {L : List Pe} {g4 : Nat} {b : Blk} (h : FwI w1 W v L) (rb : Row w1 g4 b.l) :
    RpJ w1 W v g4 b L [] [] (.slice (some ⟨W.heap.size, 0, none⟩) 0 0) (.slice (some ⟨W.heap.size + 1, 0, none⟩) 0 0) ((W.alloc (.cells #[] 27)).alloc (.cells #[] 3)) := by
  have b1 : Below W.heap.size W (W.alloc (.cells #[] 27)) := (Below.refl _ _).alloc (Nat.le_refl _) _
  have b2 : Below (W.alloc (.cells #[] 27)).heap.size (W.alloc (.cells #[] 27)) ((W.alloc (.cells #[] 27)).alloc (.cells #[] 3)) := (Below.refl _ _).alloc (Nat.le_refl _) _
  have bb := bnext b1 b2 (Nat.le_refl _)
  have hs : (W.alloc (.cells #[] 27)).heap.size = W.heap.size + 1 := by simp
  have ob : ∀ (x : Nat) r, (Value.slice (some ⟨x, 0, none⟩) 0 0).ownBlock = some r → x = r := fun x r e => by simpa [Value.ownBlock] using e
  refine ⟨h.pu.ow.later bb, h.pu.nw, fun r hr => h.pu.ow.lt hr, fun T hT => (h.ms T hT).later bb, h.wf, (PuI.made w1 W h.pu.b).later b2, fun r e => by have := ob _ _ e; omega, ?_, fun r e => by have := ob _ _ e; omega, fun r e e' => ?_, rb.later (bnext h.pu.b bb (Nat.le_refl _)), rb.lt, bb.size, h.pu.b.size⟩
  · have := World.ownsRow_made (W.alloc (.cells #[] 27)) (e := 3) (size := 1) #[] 0 (Nat.zero_le _) (Nat.zero_le _) rfl
    rw [hs] at this
    exact this
  · have := ob _ _ e
    have := ob _ _ e'
    omega
/-- A patch on its way. -/
def pk (K : Int) (T : Pe) : Pe := ⟨{ T.p with kind := K }, T.d, T.n⟩
def pki (K : Int) (i : Nat) (T : Pe) : Pe := ⟨{ T.p with kind := K, id := (i : Int) + 1 }, T.d, T.n⟩
def pkid (K : Int) (i : Nat) (T : Pe) : Pe := ⟨{ T.p with kind := K, id := (i : Int) + 1, data := T.p.data.take 8 }, ⟨T.d.a, min T.d.n 8, T.d.c⟩, T.n⟩
theorem md_wf {K : Int} {i : Nat} {T : Pe} (h : T.p.wfp) (hK : wfi K) (hi : wfi ((i : Int) + 1)) : (pk K T).p.wfp ∧ (pki K i T).p.wfp ∧ (pkid K i T).p.wfp ∧ (mdT K i T).p.wfp := by
  have ho : wfi ((among T.p.off 40 : Nat) : Int) := wfi_of (by have := among_lt T.p.off 40 (by omega); omega)
  exact ⟨⟨h.i, h.s, h.o, hK, h.w, h.c⟩, ⟨hi, h.s, h.o, hK, h.w, h.c⟩, ⟨hi, h.s, h.o, hK, h.w, h.c⟩, ⟨hi, h.s, ho, hK, h.w, h.c⟩⟩
theorem PtM.cut8 {w : World} {E : Nat → Prop} {K : Int} {i : Nat} {T : Pe} (h : PtM w E (pki K i T).p (pki K i T).d (pki K i T).n) : PtM w E (pkid K i T).p (pkid K i T).d (pkid K i T).n :=
  ⟨h.bs.cut 8, h.is, fun ad e h0 => h.ed ad e (by
    have : 0 < min T.d.n 8 := h0
    show 0 < T.d.n
    omega), h.en⟩
theorem set_at {α : Type} {M : List α} {i : Nat} {t t' : α} (h : M[i]? = some t) : (M.set i t')[i]? = some t' := by
  have hi := (List.getElem?_eq_some_iff.1 h).1
  rw [List.getElem?_set_self hi]
end Go.Proofs.Yteceapdkgidenaa
namespace Go.Proofs.Yteceapdkgidenaa
open Go.ChangeShapes Go.WideShapes Go.ChangeAt Go.RowKit
set_option linter.unusedVariables false

theorem okWide_row {P : Program} {w : World} {r : Reach} {base : Nat} {t e : TypeId} {v : Value} {n : Nat} (ht : P.underlying t = some (.array n e)) (h : Value.okWide P w r base t v) : ∃ cs, v = .agg cs ∧ cs.size = P.cellsOf t := by
  simp only [Value.okWide, ht] at h
  obtain ⟨cs, h1, h2, _⟩ := h
  exact ⟨cs, h1, h2⟩
theorem bytes_of_cells {cs : List Value} {n : Nat} (hl : cs.length = n) (h : ∀ i, i < n → ∃ a, cs[i]? = some (.int .u8 a) ∧ (Lit.int .u8 a).wf = true) : ∃ l : List UInt8, l.length = n ∧ cells l = cs := by
  refine ⟨cs.map fun v => match v with | .int _ a => UInt8.ofNat a.toNat | _ => 0, by simp [hl], ?_⟩
  apply List.ext_getElem?
  intro i
  by_cases hi : i < n
  · obtain ⟨a, e, hw⟩ := h i hi
    have := bounds_u8 hw
    simp only [List.getElem?_map, e, Option.map_some, Extern.Stop.cell]
    congr 2
    have h1 : a.toNat < 256 := by omega
    rw [show (UInt8.ofNat a.toNat).toNat = a.toNat by simp; omega]
    show ((a.toNat : Nat) : Int) = a
    omega
  · rw [List.getElem?_eq_none (by simp; omega), List.getElem?_eq_none (by omega)]
section
variable {H : Type} {enc : TypeId × Value → H} {w : World} {base : Nat} {spare : Nat → Bool} {held : Bool}
theorem bytes_of_trod {T n fuel : Nat} {cs : List Value} {x : DataW H × List MemPlace} (hT : Arr T n) (hn : Try.prog.cellsOf T = n) (h : DataW.trod enc Try.prog w base spare held fuel T cs = some x) : ∃ l : List UInt8, l.length = n ∧ cells l = cs := by
  obtain ⟨xs, m, _, _, hl, hx, hi⟩ := DataW.trod_array hT.und h
  have hl' : cs.length = n := hl.trans hn
  have h1 : Try.prog.cellsOf 5 = 1 := by kernel_rfl
  refine bytes_of_cells hl' fun i hi' => ?_
  have hq := hi i hi'
  rw [h1, Nat.mul_one] at hq
  have hlx : i < xs.length := by omega
  rw [List.getElem?_eq_getElem hlx] at hq
  obtain ⟨a, e, _, hw⟩ := DataW.trod_int (k := .u8) (by kernel_rfl) hq
  refine ⟨a, ?_, hw⟩
  have : ((cs.drop i).take 1)[0]? = cs[i]? := by rw [List.getElem?_take, if_pos (by omega), List.getElem?_drop]; simp
  rw [← this, e]; rfl
theorem blkOfTrod {fuel : Nat} {cs : List Value} {x : DataW H × List MemPlace} (h : DataW.trod enc Try.prog w base spare held fuel 23 cs = some x) : ∃ b : Blk, b.cs = cs := by
  obtain ⟨l, hl, e⟩ := bytes_of_trod arrB (by kernel_rfl) h
  exact ⟨⟨l, hl⟩, e⟩
theorem ldOfTrod {fuel : Nat} {cs : List Value} {x : DataW H × List MemPlace} (h : DataW.trod enc Try.prog w base spare held fuel 35 cs = some x) : ∃ b : Ld, b.cs = cs := by
  obtain ⟨l, hl, e⟩ := bytes_of_trod arrL (by kernel_rfl) h
  exact ⟨⟨l, hl⟩, e⟩
end
end Go.Proofs.Yteceapdkgidenaa
