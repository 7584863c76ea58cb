/-
  The region of the document's Write that draws its order, over whatever frame: no statement is proved here.
-/
import Derived.Test.YtecedklfdmbnpaaRfF
import Derived.Test.YtecedklfdmbnpaaPlain6
import Derived.Test.YtecedklfdmbnpaaDskI
import Derived.OwnWalk
import Derived.Maps.AppendAt
namespace Go.Proofs.Ytecedklfdmbnpaa
open Go.ChangeShapes Go.WideShapes Go.ChangeAt Go.RowKit
set_option linter.unusedVariables false

theorem Bls.news {W : World} {x : Addr} {L c : Nat} {l : List Blk} (hB : Bls W (some x) L c l) (j : Nat) (u : Value) (hj : (flat l)[j]? = some u) : W.cell? (x.add j) = some u := by
  have hlt : j < l.length * 64 := by have := (List.getElem?_eq_some_iff.1 hj).1; rwa [flat_len] at this
  have hlen := hB.len
  obtain ⟨b, o, e, hc⟩ := hB.cell (by omega)
  injection e with e; subst e
  have hi : j / 64 < l.length := by omega
  have hr := hc (j / 64) (by omega) (j % 64) u (by rw [← flat_get l (j / 64) (j % 64) hi (Nat.mod_lt _ (by omega)), show j / 64 * 64 + j % 64 = j by omega]; exact hj)
  rw [Addr.add_lit]
  rw [show o + j = o + j / 64 * 64 + j % 64 by omega]; exact hr
/-- A copy of what is there, onto an empty row of the call's own. -/
theorem app_old {W : World} {g L c : Nat} {a : Option Addr} {l : List Blk} (ho : W.ownsRow 0 42 64 (.slice (some ⟨g, 0, none⟩) 0 0) 0 []) (hB : Bls W a L c l) (hL : L ≤ 100000) (ha : a = none → c = 0) :
    ∃ v' W', (Builtin.append_ #[73, 73] 73 #[.slice (some ⟨g, 0, none⟩) 0 0, .slice a L c]).run Try.prog W = .ok v' W' ∧ W'.ownsRow 0 42 64 v' L (flat l) ∧ W.grownBy W' (some g) ∧ (v'.ownBlock = some g ∨ v'.ownBlock = some W.heap.size) := by
  obtain ⟨ie, hie, hiz, hisz, hiby⟩ := info_parts info36
  have hlen := hB.len
  cases a with
  | none =>
    have hc := ha rfl
    have hle := hB.le
    obtain rfl : L = 0 := by omega
    subst hc
    obtain rfl : l = [] := List.eq_nil_of_length_eq_zero hlen
    exact ⟨_, W, run_append_owned_none (P := Try.prog) (w := W) 0 73 73 42 ie 64 u41 hie _ 0 [] ho, ho, World.grownBy.refl W _, .inl rfl⟩
  | some x =>
    obtain ⟨v', W', hr, h2, h3, _, h5⟩ := run_append_own_at (P := Try.prog) W 0 73 73 42 ie _ 64 64 u41 hie hiz hisz hiby (by rfl) (by omega) _ 0 [] ho x L c (flat l) (by rw [flat_len, hlen]) (fun j u hj => hB.news j u hj) (flat_one l) (by unfold maxLen; omega) (by omega) (Nat.zero_le _)
    simp only [Nat.zero_add, List.nil_append] at hr h2
    exact ⟨v', W', hr, h2, h3, h5⟩
theorem build0 (u : World) : (Instr.buildSlice 73 0 #[]).run Try.prog u = .ok (.slice (some ⟨u.heap.size, 0, none⟩) 0 0) (u.alloc (.cells #[] 42)) := by
  obtain ⟨ie, hie, hz, hs, hb⟩ := info_parts info36
  simp [Instr.buildSlice, run_underlying u41, sizeOf, typeInfo, hie, Instr.fill, newRow]
  rw [show Array.range 0 = #[] from rfl]
  simp
theorem own0 (u : World) : (u.alloc (.cells #[] 42)).ownsRow 0 42 64 (.slice (some ⟨u.heap.size, 0, none⟩) 0 0) 0 [] :=
  ⟨rfl, .inr ⟨_, 0, #[], rfl, Nat.zero_le _, heap_alloc_new u _, Nat.le_refl _, by decide, by simp, by simp⟩⟩
theorem ev_put (a : Act) (i j : Tmp) (v : Value) : (a.put (some i) v).eval (.tmp j) = if j = i ∧ i < a.tmps.size then v else a.eval (.tmp j) := by
  unfold Act.put Act.eval
  by_cases e : j = i
  · subst e
    by_cases h : j < a.tmps.size
    · simp [h]
    · simp [h]
  · have e' : ¬ i = j := fun h => e h.symm
    simp [e, e']
theorem sz_put (a : Act) (i : Tmp) (v : Value) : (a.put (some i) v).tmps.size = a.tmps.size := by unfold Act.put; simp
theorem frame_is {P : Program} {md : Region.Mode} {ops : Array Oper} {Q : Exit → Act → World → Prop} {S : World → Prop} {n : Nat} {l : Array Bool} {A B : Act} {w : World} (e : A = B) (h : wpAnyH P md ops Q S n l B w) : wpAnyH P md ops Q S n l A w := e ▸ h
theorem frameL_is {P : Program} {ops : Array Oper} {Q : Exit → Act → World → Prop} {l : List Oper} {A B : Act} {w : World} (e : A = B) (h : wpList P ops Q l B w) : wpList P ops Q l A w := e ▸ h
theorem rest_normal {P : Program} {ops : Array Oper} {o : Oper} {Q : Exit → Act → World → Prop} {a : Act} {w : World} : Rest P ops o Q .normal a w = wpList P (ops.push o) Q [o] a w := rfl
theorem wp_of_run {o : Oper} {a : Act} {w w' : World} {v : Value} {K : Act → World → Prop} {Q : Exit → Act → World → Prop} (h : (execOp a.eval o).run Try.prog w = .ok (.value v) w') (hK : K (a.put o.dst v) w') : Oper.wp Try.prog o a w K Q := by
  unfold Oper.wp; rw [h]; exact hK
theorem wpList_skip {ops : Array Oper} {o : Oper} {a : Act} {w w' : World} {Q : Exit → Act → World → Prop} (hw : Region.wanted o (yielded ops a.tmps) = true) (hd : o.dst = none) (h : (execOp a.eval o).run Try.prog w = .ok .skip w') (hQ : Q .normal a w') : wpList Try.prog ops Q [o] a w := by
  unfold wpList
  rw [if_pos hw]
  refine .inl ?_
  unfold Oper.wp; rw [h]; simp only [Oper.upon, hd]; exact hQ
end Go.Proofs.Ytecedklfdmbnpaa
