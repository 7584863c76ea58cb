/-
  How long the numbers are that an act brings: no statement is proved here.
-/
import Derived.Test.YtdjkdkekcjmokaaRfU
import Derived.SizedLaws
namespace Go.Proofs.Ytdjkdkekcjmokaa
open Go.ChangeShapes Go.WideShapes Go.ChangeAt Go.RowKit
set_option linter.unusedVariables false

section
variable {H : Type} {enc : TypeId × Value → H} {w : World} {base : Nat} {spare : Nat → Bool} {held : Bool}
theorem ins_sized {fuel : Nat} {a : Option Addr} {n c : Nat} {x : DataW H × List MemPlace} (h : DataW.trod enc Try.prog w base spare held fuel 37 [.slice a n c] = some x) : n = 0 ∨ ∃ k ∈ x.1.weights Try.prog 37, n * 8 ≤ k := by
  rcases Deep.open_slice (e := 3) (by kernel_rfl) h with ⟨hcs, _⟩ | ⟨b, len, cap, m, _, D, Pl, hcs, _, hl, hm, hmm, hx, _⟩
  · left; injection hcs with hcs _; injection hcs
  · right
    injection hcs with hcs _
    injection hcs with _ hn _
    subst hn
    have hb : Try.prog.bytesOf 3 = 8 := by kernel_rfl
    have hu : Try.prog.underlying 37 = some (.slice 3) := by kernel_rfl
    refine ⟨_, by rw [hx]; simp only [DataW.weights, hu]; exact List.mem_cons_self .., ?_⟩
    rw [hb]; simp; omega
theorem ac_sized {fuel : Nat} {y : AC} {x : DataW H × List MemPlace} (h : DataW.trod enc Try.prog w base spare held fuel 39 y.cs = some x) : y.kn = 0 ∨ ∃ k ∈ x.1.weights Try.prog 39, y.kn * 8 ≤ k := by
  obtain ⟨fs, hfs, hf3⟩ : ∃ fs : Array Field, Try.prog.underlying 39 = some (.struct fs) ∧ (fs[3]?.map fun f => (f.offset, f.type)) = some (66, 37) :=
    ⟨_, Try.underlying39, rfl⟩
  have hsz : fs.size = 4 := by
    have e := Try.underlying39
    rw [hfs] at e; injection e with e; injection e with e; subst e; rfl
  obtain ⟨xs, m, _, hx, hl, hxs, hi⟩ := DataW.trod_struct hfs h
  cases ef : fs[3]? with
  | none => rw [ef] at hf3; cases hf3
  | some f =>
    rw [ef] at hf3
    simp only [Option.map_some, Option.some.injEq, Prod.mk.injEq] at hf3
    have h3 := hi 3 f ef
    have cl : Try.prog.cellsOf 37 = 1 := by kernel_rfl
    rw [hf3.1, hf3.2, cl] at h3
    have e : (y.cs.drop 66).take 1 = [.slice y.ka y.kn y.kc] := by
      unfold AC.cs
      rw [show (66 : Nat) = 64 + 2 from rfl, ← List.drop_drop]
      simp [List.drop_append, y.b.cs_len]
    rw [e, List.getElem?_eq_getElem (by omega)] at h3
    rcases ins_sized h3 with h4 | ⟨k, hk, hle⟩
    · exact .inl h4
    · refine .inr ⟨k, ?_, hle⟩
      rw [hx]
      simp only [DataW.weights, hfs]
      refine DataW.weights_mem_each (j := 3) (t := 37) (d := (xs[3]'(by omega)).1) ?_ ?_ k hk
      · have e5 : fs.toList[3]? = some f := by simpa using ef
        rw [List.getElem?_map, e5]; simp [hf3.2]
      · rw [List.getElem?_map, List.getElem?_eq_getElem (by omega)]; rfl
theorem weights_mem_all {P : Program} {e : TypeId} : ∀ {ds : List (DataW H)} {d : DataW H}, d ∈ ds → ∀ k ∈ d.weights P e, k ∈ DataW.weightsAll P e ds
  | d0 :: ds, d, hd, k, hk => by
    simp only [DataW.weightsAll, List.mem_append]
    rcases List.mem_cons.1 hd with rfl | h
    · exact .inl hk
    · exact .inr (weights_mem_all h k hk)
/-- Acts that came in, and how long their numbers are. -/
theorem acs_sized {fuel : Nat} {cs : List Value} {x : DataW H × List MemPlace} (h : DataW.trod enc Try.prog w base spare held fuel 22 cs = some x) (hz : ∀ k ∈ x.1.weights Try.prog 22, k ≤ reachBytes) :
    ∃ (a : Option Addr) (n c : Nat) (l : List AC), cs = [.slice a n c] ∧ Acs w a n c l ∧ ∀ (i : Nat) (y : AC), l[i]? = some y → y.kn * 8 ≤ reachBytes := by
  obtain ⟨a', n', c', l, e', hA⟩ := acs_of_trod h
  refine ⟨a', n', c', l, e', hA, fun i y hy => ?_⟩
  have hin : i < n' := by have := (List.getElem?_eq_some_iff.1 hy).1; rw [hA.len] at this; exact this
  rcases Deep.open_slice (e := 39) (by kernel_rfl) h with ⟨hcs, _⟩ | ⟨a, len, cap, m, n, D, Pl, hcs, _, hl, hm, hmm, hxx, hx⟩
  · rw [e'] at hcs; injection hcs with hcs _; injection hcs with _ hn _; omega
  · rw [e'] at hcs; injection hcs with hcs _; injection hcs with ha hn _
    subst hn
    have hlm : n' ≤ m := by rw [hmm]; split <;> omega
    have c67 : Try.prog.cellsOf 39 = 67 := by kernel_rfl
    obtain ⟨cs', h1, h2⟩ := hx i (by omega)
    rw [c67] at h1
    obtain ⟨b, o, e2, hc⟩ := hA.cell (by omega)
    obtain ⟨y', hy', hr, _⟩ := hc i hin
    rw [hy] at hy'; injection hy' with hy'; subst hy'
    have e3 : a = ⟨b, o, none⟩ := by rw [ha] at e2; injection e2
    obtain ⟨_, hlen, hcell⟩ := World.cells?_some h1
    have e4 : cs' = y.cs := by
      apply List.ext_getElem?
      intro j
      by_cases hj : j < 67
      · have h5 := hcell j hj
        rw [Deep.add_add, e3, Addr.add_mid] at h5
        have h6 : j < y.cs.length := by rw [y.cs_len]; exact hj
        have h7 := hr j _ (List.getElem?_eq_getElem h6)
        rw [show o + i * 67 + j = o + (i * 67 + j) by omega] at h7
        rw [h7] at h5
        rw [← h5, List.getElem?_eq_getElem h6]
      · rw [List.getElem?_eq_none (by omega), List.getElem?_eq_none (by rw [y.cs_len]; omega)]
    rw [e4] at h2
    rcases ac_sized h2 with h8 | ⟨k, hk, hle⟩
    · rw [h8]; omega
    · refine Nat.le_trans hle (hz k ?_)
      have hu : Try.prog.underlying 22 = some (.slice 39) := by kernel_rfl
      rw [hxx]
      simp only [DataW.weights, hu]
      refine List.mem_cons_of_mem _ (List.mem_append_left _ (weights_mem_all (d := D i) ?_ k hk))
      exact List.mem_map.2 ⟨i, List.mem_range.2 hin, rfl⟩
end
end Go.Proofs.Ytdjkdkekcjmokaa
