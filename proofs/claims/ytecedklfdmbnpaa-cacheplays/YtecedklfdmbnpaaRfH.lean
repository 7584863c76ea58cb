/-
  The region of the document's Write that draws its order, over whatever frame, its three orders: no statement is proved here. (Laid by wip/regw.py.)
-/
import Derived.Test.YtecedklfdmbnpaaRfF
import Derived.Test.YtecedklfdmbnpaaPlain6
import Derived.Test.YtecedklfdmbnpaaDskI
import Derived.OwnWalk
import Derived.Maps.AppendAt
namespace Go.Proofs.Ytecedklfdmbnpaa
open Go.ChangeShapes Go.WideShapes Go.ChangeAt Go.RowKit
set_option linter.unusedVariables false

theorem Bls.news {W : World} {x : Addr} {L c : Nat} {l : List Blk} (hB : Bls W (some x) L c l) (j : Nat) (u : Value) (hj : (flat l)[j]? = some u) : W.cell? (x.add j) = some u := by
  have hlt : j < l.length * 64 := by have := (List.getElem?_eq_some_iff.1 hj).1; rwa [flat_len] at this
  have hlen := hB.len
  obtain ⟨b, o, e, hc⟩ := hB.cell (by omega)
  injection e with e; subst e
  have hi : j / 64 < l.length := by omega
  have hr := hc (j / 64) (by omega) (j % 64) u (by rw [← flat_get l (j / 64) (j % 64) hi (Nat.mod_lt _ (by omega)), show j / 64 * 64 + j % 64 = j by omega]; exact hj)
  rw [Addr.add_lit]
  rw [show o + j = o + j / 64 * 64 + j % 64 by omega]; exact hr
/-- A copy of what is there, onto an empty row of the call's own. -/
theorem app_old {W : World} {g L c : Nat} {a : Option Addr} {l : List Blk} (ho : W.ownsRow 0 42 64 (.slice (some ⟨g, 0, none⟩) 0 0) 0 []) (hB : Bls W a L c l) (hL : L ≤ 100000) (ha : a = none → c = 0) :
    ∃ v' W', (Builtin.append_ #[73, 73] 73 #[.slice (some ⟨g, 0, none⟩) 0 0, .slice a L c]).run Try.prog W = .ok v' W' ∧ W'.ownsRow 0 42 64 v' L (flat l) ∧ W.grownBy W' (some g) ∧ (v'.ownBlock = some g ∨ v'.ownBlock = some W.heap.size) := by
  obtain ⟨ie, hie, hiz, hisz, hiby⟩ := info_parts info36
  have hlen := hB.len
  cases a with
  | none =>
    have hc := ha rfl
    have hle := hB.le
    obtain rfl : L = 0 := by omega
    subst hc
    obtain rfl : l = [] := List.eq_nil_of_length_eq_zero hlen
    exact ⟨_, W, run_append_owned_none (P := Try.prog) (w := W) 0 73 73 42 ie 64 u41 hie _ 0 [] ho, ho, World.grownBy.refl W _, .inl rfl⟩
  | some x =>
    obtain ⟨v', W', hr, h2, h3, _, h5⟩ := run_append_own_at (P := Try.prog) W 0 73 73 42 ie _ 64 64 u41 hie hiz hisz hiby (by rfl) (by omega) _ 0 [] ho x L c (flat l) (by rw [flat_len, hlen]) (fun j u hj => hB.news j u hj) (flat_one l) (by unfold maxLen; omega) (by omega) (Nat.zero_le _)
    simp only [Nat.zero_add, List.nil_append] at hr h2
    exact ⟨v', W', hr, h2, h3, h5⟩
theorem build0 (u : World) : (Instr.buildSlice 73 0 #[]).run Try.prog u = .ok (.slice (some ⟨u.heap.size, 0, none⟩) 0 0) (u.alloc (.cells #[] 42)) := by
  obtain ⟨ie, hie, hz, hs, hb⟩ := info_parts info36
  simp [Instr.buildSlice, run_underlying u41, sizeOf, typeInfo, hie, Instr.fill, newRow]
  rw [show Array.range 0 = #[] from rfl]
  simp
theorem own0 (u : World) : (u.alloc (.cells #[] 42)).ownsRow 0 42 64 (.slice (some ⟨u.heap.size, 0, none⟩) 0 0) 0 [] :=
  ⟨rfl, .inr ⟨_, 0, #[], rfl, Nat.zero_le _, heap_alloc_new u _, Nat.le_refl _, by decide, by simp, by simp⟩⟩
theorem ev_put (a : Act) (i j : Tmp) (v : Value) : (a.put (some i) v).eval (.tmp j) = if j = i ∧ i < a.tmps.size then v else a.eval (.tmp j) := by
  unfold Act.put Act.eval
  by_cases e : j = i
  · subst e
    by_cases h : j < a.tmps.size
    · simp [h]
    · simp [h]
  · have e' : ¬ i = j := fun h => e h.symm
    simp [e, e']
theorem sz_put (a : Act) (i : Tmp) (v : Value) : (a.put (some i) v).tmps.size = a.tmps.size := by unfold Act.put; simp
theorem frame_is {P : Program} {md : Region.Mode} {ops : Array Oper} {Q : Exit → Act → World → Prop} {S : World → Prop} {n : Nat} {l : Array Bool} {A B : Act} {w : World} (e : A = B) (h : wpAnyH P md ops Q S n l B w) : wpAnyH P md ops Q S n l A w := e ▸ h
theorem frameL_is {P : Program} {ops : Array Oper} {Q : Exit → Act → World → Prop} {l : List Oper} {A B : Act} {w : World} (e : A = B) (h : wpList P ops Q l B w) : wpList P ops Q l A w := e ▸ h
theorem rest_normal {P : Program} {ops : Array Oper} {o : Oper} {Q : Exit → Act → World → Prop} {a : Act} {w : World} : Rest P ops o Q .normal a w = wpList P (ops.push o) Q [o] a w := rfl
theorem wp_of_run {o : Oper} {a : Act} {w w' : World} {v : Value} {K : Act → World → Prop} {Q : Exit → Act → World → Prop} (h : (execOp a.eval o).run Try.prog w = .ok (.value v) w') (hK : K (a.put o.dst v) w') : Oper.wp Try.prog o a w K Q := by
  unfold Oper.wp; rw [h]; exact hK
theorem wpList_skip {ops : Array Oper} {o : Oper} {a : Act} {w w' : World} {Q : Exit → Act → World → Prop} (hw : Region.wanted o (yielded ops a.tmps) = true) (hd : o.dst = none) (h : (execOp a.eval o).run Try.prog w = .ok .skip w') (hQ : Q .normal a w') : wpList Try.prog ops Q [o] a w := by
  unfold wpList
  rw [if_pos hw]
  refine .inl ?_
  unfold Oper.wp; rw [h]; simp only [Oper.upon, hd]; exact hQ
end Go.Proofs.Ytecedklfdmbnpaa
namespace Go.Proofs.Ytecedklfdmbnpaa
open Go.ChangeShapes Go.WideShapes Go.ChangeAt Go.RowKit
set_option linter.unusedVariables false

theorem put_sw (A : Act) (x y z u v : Value) (dummy : Unit) : ((((A.put (some 25) x).put (some 35) z).put (some 33) y).put (some 36) u).put (some 37) v = ((((A.put (some 25) x).put (some 33) y).put (some 35) z).put (some 36) u).put (some 37) v := by
  rw [Act.put_comm (A.put (some 25) x) z y (by simp)]
theorem put_sw2 (A : Act) (x y z u v : Value) (dummy : Unit) : ((((A.put (some 35) z).put (some 25) x).put (some 33) y).put (some 36) u).put (some 37) v = ((((A.put (some 25) x).put (some 33) y).put (some 35) z).put (some 36) u).put (some 37) v := by
  rw [Act.put_comm A z x (by simp), Act.put_comm (A.put (some 25) x) z y (by simp)]
def rwFrame (a0 : Act) (y t n i : Nat) (a : Option Addr) (L c : Nat) (b : Blk) : Value → Value → Value → Value → Act := fun v25 v33 v35 v36 => (((((((((((((((((a0.put (some 20) (.pointer (some ⟨y, 0, none⟩))).put (some 21) (.pointer (some ⟨y, 0, none⟩))).put (some 22) (.pointer (some ⟨y, 2, none⟩))).put (some 23) (.slice (some ⟨t, 0, none⟩) n n)).put (some 24) (.int .i64 i)).put (some 26) (.pointer (some ⟨y, 0, none⟩))).put (some 27) (.pointer (some ⟨y, 0, none⟩))).put (some 28) (.pointer (some ⟨y, 2, none⟩))).put (some 29) (.slice (some ⟨t, 0, none⟩) n n)).put (some 30) (.int .i64 i)).put (some 31) (.pointer (some ⟨t, i, none⟩))).put (some 32) (.slice a L c)).put (some 34) (.agg b.cs.toArray)).put (some 25) v25).put (some 33) v33).put (some 35) v35).put (some 36) v36).put (some 37) (.pointer (some ⟨t, i, none⟩))
set_option maxRecDepth 100000 in
set_option maxHeartbeats 2000000 in
theorem regionW {ps : String} {Q : Exit → Act → World → Prop} (hP : ∀ c a (i : Tmp) v w, Q (.panic c) (Act.put a (some i) v) w → Q (.panic c) a w) {a0 : Act} {u : World} {y t n i bx L c : Nat} {a : Option Addr} {l : List Blk} {b : Blk}
    (hs : a0.tmps.size = 45) (e0 : a0.eval (.tmp 0) = .pointer (some ⟨y, 0, none⟩)) (e1 : a0.eval (.tmp 1) = .int .i64 i) (e5 : a0.eval (.tmp 5) = .pointer (some ⟨bx, 0, none⟩))
    (hi : i < n) (c2 : u.cell? ⟨y, 2, none⟩ = some (.slice (some ⟨t, 0, none⟩) n n)) (m1 : u.cell? ⟨t, i, none⟩ = some (.slice a L c)) (hz : u.frozen? ⟨t, i, none⟩ = false) (hlt : t < u.heap.size)
    (hb : u.rangeAt bx 0 b.cs) (hB : Bls u a L c l) (ha : a = none → c = 0) (hL : L ≤ 100000)
    (hQ : ∀ v25 v33 v35 gg cap W', Below u.heap.size u W' → W'.ownsRow 0 42 64 (.slice (some ⟨gg, 0, none⟩) (L + 1) cap) (L + 1) (flat l ++ b.cs) → u.heap.size ≤ gg → gg < W'.heap.size →
      Q .normal (rwFrame a0 y t n i a L c b v25 v33 v35 (.slice (some ⟨gg, 0, none⟩) (L + 1) cap)) (W'.setCell ⟨t, i, none⟩ (.slice (some ⟨gg, 0, none⟩) (L + 1) cap))) :
    (Code.region 6
    #[{ dst := some 20, op := Op.move (Operand.tmp 0), type := 31, pos := ps, after := #[], guard := none },
      { dst := some 21, op := Op.nilCheck (Operand.tmp 20), type := 0, pos := ps,
        after := #[{ on := 0, ground := Ground.data }], guard := none },
      { dst := some 22, op := Op.fieldAddr 76 (Operand.tmp 21) 2, type := 0, pos := ps,
        after := #[{ on := 1, ground := Ground.data }], guard := none },
      { dst := some 23, op := Op.load 74 (Operand.tmp 22), type := 74, pos := ps,
        after := #[{ on := 2, ground := Ground.data }], guard := none },
      { dst := some 24, op := Op.move (Operand.tmp 1), type := 3, pos := ps, after := #[], guard := none },
      { dst := some 25, op := Op.buildSlice 73 0 #[], type := 73, pos := ps, after := #[], guard := none },
      { dst := some 26, op := Op.move (Operand.tmp 0), type := 31, pos := ps, after := #[], guard := none },
      { dst := some 27, op := Op.nilCheck (Operand.tmp 26), type := 0, pos := ps,
        after := #[{ on := 6, ground := Ground.data }], guard := none },
      { dst := some 28, op := Op.fieldAddr 76 (Operand.tmp 27) 2, type := 0, pos := ps,
        after := #[{ on := 7, ground := Ground.data }], guard := none },
      { dst := some 29, op := Op.load 74 (Operand.tmp 28), type := 74, pos := ps,
        after := #[{ on := 8, ground := Ground.data }], guard := none },
      { dst := some 30, op := Op.move (Operand.tmp 1), type := 3, pos := ps, after := #[], guard := none },
      { dst := some 31, op := Op.indexAddr 74 (Operand.tmp 29) (Operand.tmp 30), type := 0, pos := ps,
        after := #[{ on := 9, ground := Ground.data }, { on := 10, ground := Ground.data }], guard := none },
      { dst := some 32, op := Op.load 73 (Operand.tmp 31), type := 73, pos := ps,
        after := #[{ on := 11, ground := Ground.data }], guard := none },
      { dst := some 33,
        op :=
          Op.call
            { callee := Callee.builtin Builtin.append, args := #[Operand.tmp 25, Operand.tmp 32],
              argTypes := #[73, 73] },
        type := 73, pos := ps,
        after := #[{ on := 5, ground := Ground.data }, { on := 12, ground := Ground.data }], guard := none },
      { dst := some 34, op := Op.load 42 (Operand.tmp 5), type := 42, pos := ps, after := #[], guard := none },
      { dst := some 35, op := Op.buildSlice 73 1 #[(0, Operand.tmp 34)], type := 73, pos := ps,
        after := #[{ on := 14, ground := Ground.data }], guard := none },
      { dst := some 36,
        op :=
          Op.call
            { callee := Callee.builtin Builtin.append, args := #[Operand.tmp 33, Operand.tmp 35],
              argTypes := #[73, 73] },
        type := 73, pos := ps,
        after :=
          #[{ on := 13, ground := Ground.data }, { on := 15, ground := Ground.data },
            { on := 13, ground := Ground.chain }],
        guard := none },
      { dst := some 37, op := Op.indexAddr 74 (Operand.tmp 23) (Operand.tmp 24), type := 0, pos := ps,
        after :=
          #[{ on := 3, ground := Ground.data }, { on := 4, ground := Ground.data }, { on := 0, ground := Ground.phase },
            { on := 1, ground := Ground.phase }, { on := 2, ground := Ground.phase },
            { on := 3, ground := Ground.phase }, { on := 4, ground := Ground.phase },
            { on := 5, ground := Ground.phase }, { on := 6, ground := Ground.phase },
            { on := 7, ground := Ground.phase }, { on := 8, ground := Ground.phase },
            { on := 9, ground := Ground.phase }, { on := 10, ground := Ground.phase },
            { on := 11, ground := Ground.phase }, { on := 12, ground := Ground.phase },
            { on := 13, ground := Ground.phase }, { on := 14, ground := Ground.phase },
            { on := 15, ground := Ground.phase }, { on := 16, ground := Ground.phase }],
        guard := none },
      { dst := none, op := Op.store 73 (Operand.tmp 37) (Operand.tmp 36), type := 0, pos := ps,
        after :=
          #[{ on := 17, ground := Ground.data }, { on := 16, ground := Ground.data },
            { on := 16, ground := Ground.chain }, { on := 0, ground := Ground.phase },
            { on := 1, ground := Ground.phase }, { on := 2, ground := Ground.phase },
            { on := 3, ground := Ground.phase }, { on := 4, ground := Ground.phase },
            { on := 5, ground := Ground.phase }, { on := 6, ground := Ground.phase },
            { on := 7, ground := Ground.phase }, { on := 8, ground := Ground.phase },
            { on := 9, ground := Ground.phase }, { on := 10, ground := Ground.phase },
            { on := 11, ground := Ground.phase }, { on := 12, ground := Ground.phase },
            { on := 13, ground := Ground.phase }, { on := 14, ground := Ground.phase },
            { on := 15, ground := Ground.phase }, { on := 16, ground := Ground.phase }],
        guard := none }]
    true).wp Try.prog Q a0 u := by
  have i1 : (0 : Int) ≤ (i : Int) := by omega
  have i2 : (i : Int) < (n : Int) := by omega
  have hS : ∀ v, Below u.heap.size u v → (v.cell? ⟨y, 2, none⟩ = some (.slice (some ⟨t, 0, none⟩) n n) ∧ v.cell? ⟨t, i, none⟩ = some (.slice a L c) ∧ v.rangeAt bx 0 b.cs) := fun v s => ⟨(Stp.of_below s (fun _ => False)).cell c2 id, (Stp.of_below s (fun _ => False)).cell m1 id, (Stp.of_below s (fun _ => False)).range hb id⟩
  have bD : Below u.heap.size u u.drew := (Below.refl _ u).drew
  refine wp_region_last (S := fun u => u.cell? ⟨y, 2, none⟩ = some (.slice (some ⟨t, 0, none⟩) n n) ∧ u.cell? ⟨t, i, none⟩ = some (.slice a L c) ∧ u.rangeAt bx 0 b.cs) _ _ (by simp only [List.pop_toArray, List.dropLast_cons_cons, List.dropLast_singleton]; rfl) (by simp only [List.back?_toArray, List.getLast?_cons_cons, List.getLast?_singleton]; rfl) (by kernel_rfl) (by kernel_rfl) (hS _ bD) (fun hHeld => ?_)
  refine wpAnyH_take (i := 0) (v := .pointer (some ⟨y, 0, none⟩)) rfl (by kernel_rfl) (by kernel_rfl) (by kernel_rfl) (fun _ _ _ h => hP _ _ _ _ _ h) (Or.inl ⟨by rfl, ?_⟩) hHeld ?_
  · intro v hv
    simp [execOp, e0]
  refine wpAnyH_take (i := 1) (v := .pointer (some ⟨y, 0, none⟩)) rfl (by kernel_rfl) (by kernel_rfl) (by kernel_rfl) (fun _ _ _ h => hP _ _ _ _ _ h) (Or.inl ⟨by rfl, ?_⟩) hHeld ?_
  · intro v hv
    simp [execOp, ev_put, hs]
    try go_simp
  refine wpAnyH_take (i := 2) (v := .pointer (some ⟨y, 2, none⟩)) rfl (by kernel_rfl) (by kernel_rfl) (by kernel_rfl) (fun _ _ _ h => hP _ _ _ _ _ h) (Or.inl ⟨by rfl, ?_⟩) hHeld ?_
  · intro v hv
    simp [execOp, ev_put, sz_put, hs]
    go_simp
  refine wpAnyH_take (i := 3) (v := .slice (some ⟨t, 0, none⟩) n n) rfl (by kernel_rfl) (by kernel_rfl) (by kernel_rfl) (fun _ _ _ h => hP _ _ _ _ _ h) (Or.inl ⟨by rfl, ?_⟩) hHeld ?_
  · intro v hv
    obtain ⟨hv1, hv2, hv3⟩ := hv
    simp [execOp, ev_put, sz_put, hs]
    go_simp
  refine wpAnyH_take (i := 4) (v := .int .i64 i) rfl (by kernel_rfl) (by kernel_rfl) (by kernel_rfl) (fun _ _ _ h => hP _ _ _ _ _ h) (Or.inl ⟨by rfl, ?_⟩) hHeld ?_
  · intro v hv
    simp [execOp, ev_put, e1]
  refine wpAnyH_take (i := 6) (v := .pointer (some ⟨y, 0, none⟩)) rfl (by kernel_rfl) (by kernel_rfl) (by kernel_rfl) (fun _ _ _ h => hP _ _ _ _ _ h) (Or.inl ⟨by rfl, ?_⟩) hHeld ?_
  · intro v hv
    simp [execOp, ev_put, e0]
  refine wpAnyH_take (i := 7) (v := .pointer (some ⟨y, 0, none⟩)) rfl (by kernel_rfl) (by kernel_rfl) (by kernel_rfl) (fun _ _ _ h => hP _ _ _ _ _ h) (Or.inl ⟨by rfl, ?_⟩) hHeld ?_
  · intro v hv
    simp [execOp, ev_put, sz_put, hs]
    try go_simp
  refine wpAnyH_take (i := 8) (v := .pointer (some ⟨y, 2, none⟩)) rfl (by kernel_rfl) (by kernel_rfl) (by kernel_rfl) (fun _ _ _ h => hP _ _ _ _ _ h) (Or.inl ⟨by rfl, ?_⟩) hHeld ?_
  · intro v hv
    simp [execOp, ev_put, sz_put, hs]
    go_simp
  refine wpAnyH_take (i := 9) (v := .slice (some ⟨t, 0, none⟩) n n) rfl (by kernel_rfl) (by kernel_rfl) (by kernel_rfl) (fun _ _ _ h => hP _ _ _ _ _ h) (Or.inl ⟨by rfl, ?_⟩) hHeld ?_
  · intro v hv
    obtain ⟨hv1, hv2, hv3⟩ := hv
    simp [execOp, ev_put, sz_put, hs]
    go_simp
  refine wpAnyH_take (i := 10) (v := .int .i64 i) rfl (by kernel_rfl) (by kernel_rfl) (by kernel_rfl) (fun _ _ _ h => hP _ _ _ _ _ h) (Or.inl ⟨by rfl, ?_⟩) hHeld ?_
  · intro v hv
    simp [execOp, ev_put, e1]
  refine wpAnyH_take (i := 11) (v := .pointer (some ⟨t, i, none⟩)) rfl (by kernel_rfl) (by kernel_rfl) (by kernel_rfl) (fun _ _ _ h => hP _ _ _ _ _ h) (Or.inl ⟨by rfl, ?_⟩) hHeld ?_
  · intro v hv
    simp [execOp, ev_put, sz_put, hs]
    go_simp
  refine wpAnyH_take (i := 12) (v := .slice a L c) rfl (by kernel_rfl) (by kernel_rfl) (by kernel_rfl) (fun _ _ _ h => hP _ _ _ _ _ h) (Or.inl ⟨by rfl, ?_⟩) hHeld ?_
  · intro v hv
    obtain ⟨hv1, hv2, hv3⟩ := hv
    simp [execOp, ev_put, sz_put, hs]
    go_simp
  refine wpAnyH_take (i := 14) (v := .agg b.cs.toArray) rfl (by kernel_rfl) (by kernel_rfl) (by kernel_rfl) (fun _ _ _ h => hP _ _ _ _ _ h)
    (yieldsIf_load_mid (by rfl) 42 (.tmp 5) rfl bx 0 (by simp [ev_put, e5]) b.cs _ (fun v hv => hv.2.2) u36 rfl (size36 b)) hHeld ?_
  refine frame_is (B := (((((((((((((a0.put (some 20) (.pointer (some ⟨y, 0, none⟩))).put (some 21) (.pointer (some ⟨y, 0, none⟩))).put (some 22) (.pointer (some ⟨y, 2, none⟩))).put (some 23) (.slice (some ⟨t, 0, none⟩) n n)).put (some 24) (.int .i64 i)).put (some 26) (.pointer (some ⟨y, 0, none⟩))).put (some 27) (.pointer (some ⟨y, 0, none⟩))).put (some 28) (.pointer (some ⟨y, 2, none⟩))).put (some 29) (.slice (some ⟨t, 0, none⟩) n n)).put (some 30) (.int .i64 i)).put (some 31) (.pointer (some ⟨t, i, none⟩))).put (some 32) (.slice a L c)).put (some 34) (.agg b.cs.toArray))) rfl ?_
  obtain ⟨A, hA⟩ : ∃ A, A = (((((((((((((a0.put (some 20) (.pointer (some ⟨y, 0, none⟩))).put (some 21) (.pointer (some ⟨y, 0, none⟩))).put (some 22) (.pointer (some ⟨y, 2, none⟩))).put (some 23) (.slice (some ⟨t, 0, none⟩) n n)).put (some 24) (.int .i64 i)).put (some 26) (.pointer (some ⟨y, 0, none⟩))).put (some 27) (.pointer (some ⟨y, 0, none⟩))).put (some 28) (.pointer (some ⟨y, 2, none⟩))).put (some 29) (.slice (some ⟨t, 0, none⟩) n n)).put (some 30) (.int .i64 i)).put (some 31) (.pointer (some ⟨t, i, none⟩))).put (some 32) (.slice a L c)).put (some 34) (.agg b.cs.toArray)) := ⟨_, rfl⟩
  have a25 : ∀ v, (A.put (some 25) v).eval (.tmp 25) = v := fun v => by rw [hA]; simp [ev_put, sz_put, hs]
  have zA : A.tmps.size = 45 := by rw [hA]; simp [sz_put, hs]
  have a32 : A.eval (.tmp 32) = .slice a L c := by rw [hA]; simp [ev_put, sz_put, hs]
  have a34 : A.eval (.tmp 34) = .agg b.cs.toArray := by rw [hA]; simp [ev_put, sz_put, hs]
  have a23 : A.eval (.tmp 23) = .slice (some ⟨t, 0, none⟩) n n := by rw [hA]; simp [ev_put, sz_put, hs]
  have a24 : A.eval (.tmp 24) = .int .i64 i := by rw [hA]; simp [ev_put, sz_put, hs]
  rw [← hA]
  rw [show rwFrame a0 y t n i a L c b = fun v25 v33 v35 v36 => ((((A.put (some 25) v25).put (some 33) v33).put (some 35) v35).put (some 36) v36).put (some 37) (.pointer (some ⟨t, i, none⟩)) by rw [hA]; rfl] at hQ
  clear hA
  refine wpAnyH_ready (rs := [5, 15]) (by kernel_rfl) (by simp) ?_
  refine AllReadyH.cons (o := { dst := some 25, op := Op.buildSlice 73 0 #[], type := 73, pos := ps, after := #[], guard := none }) rfl (fun K hK => ?_) (AllReadyH.cons (o := { dst := some 35, op := Op.buildSlice 73 1 #[(0, Operand.tmp 34)], type := 73, pos := ps, after := #[{ on := 14, ground := Ground.data }], guard := none }) rfl (fun K hK => ?_) AllReadyH.nil)
  · have g5le : u.heap.size ≤ u.drew.heap.size := Nat.le_refl _
    rw [if_pos (by rfl)]
    refine wp_of_run (v := .slice (some ⟨(u.drew).heap.size, 0, none⟩) 0 0) (w' := (u.drew).alloc (.cells #[] 42)) ?_ ?_
    · simp only [execOp, Sem.run_bind, List.map_toArray, List.map_nil]; rw [build0]; rfl
    have b5 : Below u.heap.size u ((u.drew).alloc (.cells #[] 42)) := Below.alloc bD (Below.size bD) _
    refine hK.out _ _ (hS _ b5) (fun hHeld => ?_)
    clear hK K
    refine wpAnyH_ready (rs := [13, 15]) (by kernel_rfl) (by simp) ?_
    refine AllReadyH.cons (o := { dst := some 33, op := Op.call { callee := Callee.builtin Builtin.append, args := #[Operand.tmp 25, Operand.tmp 32], argTypes := #[73, 73] }, type := 73, pos := ps, after := #[{ on := 5, ground := Ground.data }, { on := 12, ground := Ground.data }], guard := none }) rfl (fun K hK => ?_) (AllReadyH.cons (o := { dst := some 35, op := Op.buildSlice 73 1 #[(0, Operand.tmp 34)], type := 73, pos := ps, after := #[{ on := 14, ground := Ground.data }], guard := none }) rfl (fun K hK => ?_) AllReadyH.nil)
    · rw [if_pos (by rfl)]
      obtain ⟨v33, w13, hr13, ho13, hg13, hat13⟩ := app_old (W := u.drew.alloc (.cells #[] 42)) (g := u.drew.heap.size) (own0 _) (hB.step (Stp.of_below b5 (fun _ => False)) (fun _ _ => id)) hL ha
      refine wp_of_run (v := v33) (w' := w13) ?_ ?_
      · simp only [execOp, resolve, invoke, builtin, Sem.run_bind, Sem.run_pure, Result.andThen_ok, List.map_toArray, List.map_cons, List.map_nil]; rw [show (A.put (some 25) (.slice (some ⟨u.drew.heap.size, 0, none⟩) 0 0)).eval (.tmp 25) = .slice (some ⟨u.drew.heap.size, 0, none⟩) 0 0 by simp [ev_put, zA], show (A.put (some 25) (.slice (some ⟨u.drew.heap.size, 0, none⟩) 0 0)).eval (.tmp 32) = .slice a L c by simp [ev_put, a32]]; rw [hr13]; rfl
      have b13 : Below u.heap.size u w13 := ((Stp.of_below b5 (fun x => u.heap.size ≤ x)).trans (Stp.of_grown hg13 (fun x hx => .inl (by injection hx with hx; subst hx; first | exact Below.size b5 | exact g5le)))).below (Nat.le_refl _) (fun x hx => hx)
      refine hK.out _ _ (hS _ b13) (fun hHeld => ?_)
      clear hK K
      refine wpAnyH_ready (rs := [15]) (by kernel_rfl) (by simp) ?_
      refine AllReadyH.cons (o := { dst := some 35, op := Op.buildSlice 73 1 #[(0, Operand.tmp 34)], type := 73, pos := ps, after := #[{ on := 14, ground := Ground.data }], guard := none }) rfl (fun K hK => ?_) AllReadyH.nil
      rw [if_pos (by rfl)]
      refine wp_of_run (v := .slice (some ⟨(w13).heap.size, 0, none⟩) 1 1) (w' := (w13).alloc (.cells b.cs.toArray 42)) ?_ ?_
      · simp only [execOp, Sem.run_bind, List.map_toArray, List.map_cons, List.map_nil]; rw [show ((A.put (some 25) (.slice (some ⟨u.drew.heap.size, 0, none⟩) 0 0)).put (some 33) v33).eval (.tmp 34) = .agg b.cs.toArray by simp [ev_put, a34]]; rw [lit36]; rfl
      have b15 : Below u.heap.size u ((w13).alloc (.cells b.cs.toArray 42)) := Below.alloc b13 (Below.size b13) _
      refine hK.out _ _ (hS _ b15) (fun hHeld => ?_)
      clear hK K
      refine wpAnyH_ready (rs := [16]) (by kernel_rfl) (by simp) ?_
      refine AllReadyH.cons (o := { dst := some 36, op := Op.call { callee := Callee.builtin Builtin.append, args := #[Operand.tmp 33, Operand.tmp 35], argTypes := #[73, 73] }, type := 73, pos := ps, after := #[{ on := 13, ground := Ground.data }, { on := 15, ground := Ground.data }, { on := 13, ground := Ground.chain }], guard := none }) rfl (fun K hK => ?_) AllReadyH.nil
      obtain ⟨ie, hie, hiz, hisz, hiby⟩ := info_parts info36
      refine step_append_lies _ rfl (.tmp 33) (.tmp 35) 73 rfl 0 42 ie _ 64 64 u41 hie hiz hisz hiby (by rfl) (by omega) v33 L (flat l) (by simp [ev_put, sz_put, zA]) (own_stepV ho13 (Stp.of_alloc _ _ (fun _ => False)) (fun _ _ => id)) ⟨w13.heap.size, 0, none⟩ 1 1 b.cs (by simp [ev_put, sz_put, zA]) (by rw [b.cs_len]) (fun j v hv => by have := (made_range w13 b.cs 42) j v hv; rw [Addr.add_lit]; exact this) b.cs_one (by omega) (by unfold maxLen; omega) (by omega) (Nat.zero_le _) _ rfl ?_
      intro gg cap w16 ho16 hg16 hat16 hlt16
      have n33 : ∀ x, v33.ownBlock = some x → u.heap.size ≤ x := fun x hx => by rcases hat13 with e | e <;> (rw [e] at hx; injection hx with hx; subst hx; first | exact g5le | exact (Below.size b5))
      have b16 : Below u.heap.size u w16 := ((Stp.of_below b15 (fun x => u.heap.size ≤ x)).trans (Stp.of_grown hg16 (fun x hx => .inl (n33 x hx)))).below (Nat.le_refl _) (fun x hx => hx)
      have gle : u.heap.size ≤ gg := by rcases hat16 with e | e; exact n33 gg e; rw [e]; exact Below.size b15
      refine hK.out _ _ (hS _ b16) (fun hHeld => ?_)
      clear hK K
      refine wpAnyH_take (i := 17) (v := .pointer (some ⟨t, i, none⟩)) rfl (by kernel_rfl) (by kernel_rfl) (by kernel_rfl) (fun _ _ _ h => hP _ _ _ _ _ h) (Or.inl ⟨by rfl, ?_⟩) hHeld ?_
      · intro v hv
        simp [execOp, ev_put, a23, a24]
        go_simp
      refine wpAnyH_done (by kernel_rfl) ?_ _
      rw [rest_normal]
      have hq := hQ (.slice (some ⟨u.drew.heap.size, 0, none⟩) 0 0) v33 (.slice (some ⟨w13.heap.size, 0, none⟩) 1 1) gg cap w16 b16 ho16 gle hlt16
      have c3 : w16.cell? ⟨t, i, none⟩ = some (.slice a L c) := (Stp.of_below b16 (fun _ => False)).cell m1 id
      have z3 : w16.frozen? ⟨t, i, none⟩ = false := by rw [(Stp.of_below b16 (fun _ => False)).frozen (p := ⟨t, i, none⟩) hlt id]; exact hz
      refine frameL_is (B := ((((A.put (some 25) (.slice (some ⟨u.drew.heap.size, 0, none⟩) 0 0)).put (some 33) v33).put (some 35) (.slice (some ⟨w13.heap.size, 0, none⟩) 1 1)).put (some 36) (.slice (some ⟨gg, 0, none⟩) (L + 1) cap)).put (some 37) (.pointer (some ⟨t, i, none⟩))) rfl ?_
      refine wpList_skip (w' := w16.setCell ⟨t, i, none⟩ (.slice (some ⟨gg, 0, none⟩) (L + 1) cap)) (by rfl) rfl ?_ hq
      have v1 : (((((A.put (some 25) (.slice (some ⟨u.drew.heap.size, 0, none⟩) 0 0)).put (some 33) v33).put (some 35) (.slice (some ⟨w13.heap.size, 0, none⟩) 1 1)).put (some 36) (.slice (some ⟨gg, 0, none⟩) (L + 1) cap)).put (some 37) (.pointer (some ⟨t, i, none⟩))).eval (.tmp 37) = .pointer (some ⟨t, i, none⟩) := by simp [ev_put, sz_put, zA]
      have v2 : (((((A.put (some 25) (.slice (some ⟨u.drew.heap.size, 0, none⟩) 0 0)).put (some 33) v33).put (some 35) (.slice (some ⟨w13.heap.size, 0, none⟩) 1 1)).put (some 36) (.slice (some ⟨gg, 0, none⟩) (L + 1) cap)).put (some 37) (.pointer (some ⟨t, i, none⟩))).eval (.tmp 36) = .slice (some ⟨gg, 0, none⟩) (L + 1) cap := by simp [ev_put, sz_put, zA]
      clear hq hQ hHeld
      simp only [execOp, v1, v2]
      go_simp
    · rw [if_pos (by rfl)]
      refine wp_of_run (v := .slice (some ⟨(u.drew.alloc (.cells #[] 42)).heap.size, 0, none⟩) 1 1) (w' := (u.drew.alloc (.cells #[] 42)).alloc (.cells b.cs.toArray 42)) ?_ ?_
      · simp only [execOp, Sem.run_bind, List.map_toArray, List.map_cons, List.map_nil]; rw [show (A.put (some 25) (.slice (some ⟨u.drew.heap.size, 0, none⟩) 0 0)).eval (.tmp 34) = .agg b.cs.toArray by simp [ev_put, a34]]; rw [lit36]; rfl
      have b15 : Below u.heap.size u ((u.drew.alloc (.cells #[] 42)).alloc (.cells b.cs.toArray 42)) := Below.alloc b5 (Below.size b5) _
      refine hK.out _ _ (hS _ b15) (fun hHeld => ?_)
      clear hK K
      refine wpAnyH_ready (rs := [13]) (by kernel_rfl) (by simp) ?_
      refine AllReadyH.cons (o := { dst := some 33, op := Op.call { callee := Callee.builtin Builtin.append, args := #[Operand.tmp 25, Operand.tmp 32], argTypes := #[73, 73] }, type := 73, pos := ps, after := #[{ on := 5, ground := Ground.data }, { on := 12, ground := Ground.data }], guard := none }) rfl (fun K hK => ?_) AllReadyH.nil
      rw [if_pos (by rfl)]
      obtain ⟨v33, w13, hr13, ho13, hg13, hat13⟩ := app_old (W := (u.drew.alloc (.cells #[] 42)).alloc (.cells b.cs.toArray 42)) (g := u.drew.heap.size) (own_stepV (own0 _) (Stp.of_alloc _ _ (fun _ => False)) (fun _ _ => id)) (hB.step (Stp.of_below b15 (fun _ => False)) (fun _ _ => id)) hL ha
      refine wp_of_run (v := v33) (w' := w13) ?_ ?_
      · simp only [execOp, resolve, invoke, builtin, Sem.run_bind, Sem.run_pure, Result.andThen_ok, List.map_toArray, List.map_cons, List.map_nil]; rw [show ((A.put (some 25) (.slice (some ⟨u.drew.heap.size, 0, none⟩) 0 0)).put (some 35) (.slice (some ⟨(u.drew.alloc (.cells #[] 42)).heap.size, 0, none⟩) 1 1)).eval (.tmp 25) = .slice (some ⟨u.drew.heap.size, 0, none⟩) 0 0 by simp [ev_put, sz_put, zA], show ((A.put (some 25) (.slice (some ⟨u.drew.heap.size, 0, none⟩) 0 0)).put (some 35) (.slice (some ⟨(u.drew.alloc (.cells #[] 42)).heap.size, 0, none⟩) 1 1)).eval (.tmp 32) = .slice a L c by simp [ev_put, a32]]; rw [hr13]; rfl
      have b13 : Below u.heap.size u w13 := ((Stp.of_below b15 (fun x => u.heap.size ≤ x)).trans (Stp.of_grown hg13 (fun x hx => .inl (by injection hx with hx; subst hx; first | exact Below.size b15 | exact g5le)))).below (Nat.le_refl _) (fun x hx => hx)
      refine hK.out _ _ (hS _ b13) (fun hHeld => ?_)
      clear hK K
      refine wpAnyH_ready (rs := [16]) (by kernel_rfl) (by simp) ?_
      refine AllReadyH.cons (o := { dst := some 36, op := Op.call { callee := Callee.builtin Builtin.append, args := #[Operand.tmp 33, Operand.tmp 35], argTypes := #[73, 73] }, type := 73, pos := ps, after := #[{ on := 13, ground := Ground.data }, { on := 15, ground := Ground.data }, { on := 13, ground := Ground.chain }], guard := none }) rfl (fun K hK => ?_) AllReadyH.nil
      obtain ⟨ie, hie, hiz, hisz, hiby⟩ := info_parts info36
      refine step_append_lies _ rfl (.tmp 33) (.tmp 35) 73 rfl 0 42 ie _ 64 64 u41 hie hiz hisz hiby (by rfl) (by omega) v33 L (flat l) (by simp [ev_put, sz_put, zA]) ho13 ⟨(u.drew.alloc (.cells #[] 42)).heap.size, 0, none⟩ 1 1 b.cs (by simp [ev_put, sz_put, zA]) (by rw [b.cs_len]) (fun j v hv => by have := ((Stp.of_grown hg13 (F := fun x => some x = some (u.drew.heap.size)) (fun x hx => .inl hx.symm)).range (made_range (u.drew.alloc (.cells #[] 42)) b.cs 42) (fun e => by injection e with e; simp at e)) j v hv; rw [Addr.add_lit]; exact this) b.cs_one (by omega) (by unfold maxLen; omega) (by omega) (Nat.zero_le _) _ rfl ?_
      intro gg cap w16 ho16 hg16 hat16 hlt16
      have n33 : ∀ x, v33.ownBlock = some x → u.heap.size ≤ x := fun x hx => by rcases hat13 with e | e <;> (rw [e] at hx; injection hx with hx; subst hx; first | exact g5le | exact (Below.size b15))
      have b16 : Below u.heap.size u w16 := ((Stp.of_below b13 (fun x => u.heap.size ≤ x)).trans (Stp.of_grown hg16 (fun x hx => .inl (n33 x hx)))).below (Nat.le_refl _) (fun x hx => hx)
      have gle : u.heap.size ≤ gg := by rcases hat16 with e | e; exact n33 gg e; rw [e]; exact Below.size b13
      refine hK.out _ _ (hS _ b16) (fun hHeld => ?_)
      clear hK K
      refine wpAnyH_take (i := 17) (v := .pointer (some ⟨t, i, none⟩)) rfl (by kernel_rfl) (by kernel_rfl) (by kernel_rfl) (fun _ _ _ h => hP _ _ _ _ _ h) (Or.inl ⟨by rfl, ?_⟩) hHeld ?_
      · intro v hv
        simp [execOp, ev_put, a23, a24]
        go_simp
      refine wpAnyH_done (by kernel_rfl) ?_ _
      rw [rest_normal]
      have hq := hQ (.slice (some ⟨u.drew.heap.size, 0, none⟩) 0 0) v33 (.slice (some ⟨(u.drew.alloc (.cells #[] 42)).heap.size, 0, none⟩) 1 1) gg cap w16 b16 ho16 gle hlt16
      have c3 : w16.cell? ⟨t, i, none⟩ = some (.slice a L c) := (Stp.of_below b16 (fun _ => False)).cell m1 id
      have z3 : w16.frozen? ⟨t, i, none⟩ = false := by rw [(Stp.of_below b16 (fun _ => False)).frozen (p := ⟨t, i, none⟩) hlt id]; exact hz
      refine frameL_is (B := ((((A.put (some 25) (.slice (some ⟨u.drew.heap.size, 0, none⟩) 0 0)).put (some 33) v33).put (some 35) (.slice (some ⟨(u.drew.alloc (.cells #[] 42)).heap.size, 0, none⟩) 1 1)).put (some 36) (.slice (some ⟨gg, 0, none⟩) (L + 1) cap)).put (some 37) (.pointer (some ⟨t, i, none⟩))) (put_sw _ _ _ _ _ _ ()) ?_
      refine wpList_skip (w' := w16.setCell ⟨t, i, none⟩ (.slice (some ⟨gg, 0, none⟩) (L + 1) cap)) (by rfl) rfl ?_ hq
      have v1 : (((((A.put (some 25) (.slice (some ⟨u.drew.heap.size, 0, none⟩) 0 0)).put (some 33) v33).put (some 35) (.slice (some ⟨(u.drew.alloc (.cells #[] 42)).heap.size, 0, none⟩) 1 1)).put (some 36) (.slice (some ⟨gg, 0, none⟩) (L + 1) cap)).put (some 37) (.pointer (some ⟨t, i, none⟩))).eval (.tmp 37) = .pointer (some ⟨t, i, none⟩) := by simp [ev_put, sz_put, zA]
      have v2 : (((((A.put (some 25) (.slice (some ⟨u.drew.heap.size, 0, none⟩) 0 0)).put (some 33) v33).put (some 35) (.slice (some ⟨(u.drew.alloc (.cells #[] 42)).heap.size, 0, none⟩) 1 1)).put (some 36) (.slice (some ⟨gg, 0, none⟩) (L + 1) cap)).put (some 37) (.pointer (some ⟨t, i, none⟩))).eval (.tmp 36) = .slice (some ⟨gg, 0, none⟩) (L + 1) cap := by simp [ev_put, sz_put, zA]
      clear hq hQ hHeld
      simp only [execOp, v1, v2]
      go_simp
  · rw [if_pos (by rfl)]
    refine wp_of_run (v := .slice (some ⟨(u.drew).heap.size, 0, none⟩) 1 1) (w' := (u.drew).alloc (.cells b.cs.toArray 42)) ?_ ?_
    · simp only [execOp, Sem.run_bind, List.map_toArray, List.map_cons, List.map_nil]; rw [show (A).eval (.tmp 34) = .agg b.cs.toArray by simp [a34]]; rw [lit36]; rfl
    have b15 : Below u.heap.size u ((u.drew).alloc (.cells b.cs.toArray 42)) := Below.alloc bD (Below.size bD) _
    refine hK.out _ _ (hS _ b15) (fun hHeld => ?_)
    clear hK K
    refine wpAnyH_ready (rs := [5]) (by kernel_rfl) (by simp) ?_
    refine AllReadyH.cons (o := { dst := some 25, op := Op.buildSlice 73 0 #[], type := 73, pos := ps, after := #[], guard := none }) rfl (fun K hK => ?_) AllReadyH.nil
    rw [if_pos (by rfl)]
    refine wp_of_run (v := .slice (some ⟨(u.drew.alloc (.cells b.cs.toArray 42)).heap.size, 0, none⟩) 0 0) (w' := (u.drew.alloc (.cells b.cs.toArray 42)).alloc (.cells #[] 42)) ?_ ?_
    · simp only [execOp, Sem.run_bind, List.map_toArray, List.map_nil]; rw [build0]; rfl
    have b5 : Below u.heap.size u ((u.drew.alloc (.cells b.cs.toArray 42)).alloc (.cells #[] 42)) := Below.alloc b15 (Below.size b15) _
    refine hK.out _ _ (hS _ b5) (fun hHeld => ?_)
    clear hK K
    have g5le : u.heap.size ≤ (u.drew.alloc (.cells b.cs.toArray 42)).heap.size := Below.size b15
    refine wpAnyH_ready (rs := [13]) (by kernel_rfl) (by simp) ?_
    refine AllReadyH.cons (o := { dst := some 33, op := Op.call { callee := Callee.builtin Builtin.append, args := #[Operand.tmp 25, Operand.tmp 32], argTypes := #[73, 73] }, type := 73, pos := ps, after := #[{ on := 5, ground := Ground.data }, { on := 12, ground := Ground.data }], guard := none }) rfl (fun K hK => ?_) AllReadyH.nil
    rw [if_pos (by rfl)]
    obtain ⟨v33, w13, hr13, ho13, hg13, hat13⟩ := app_old (W := (u.drew.alloc (.cells b.cs.toArray 42)).alloc (.cells #[] 42)) (g := (u.drew.alloc (.cells b.cs.toArray 42)).heap.size) (own0 _) (hB.step (Stp.of_below b5 (fun _ => False)) (fun _ _ => id)) hL ha
    refine wp_of_run (v := v33) (w' := w13) ?_ ?_
    · simp only [execOp, resolve, invoke, builtin, Sem.run_bind, Sem.run_pure, Result.andThen_ok, List.map_toArray, List.map_cons, List.map_nil]; rw [show ((A.put (some 35) (.slice (some ⟨u.drew.heap.size, 0, none⟩) 1 1)).put (some 25) (.slice (some ⟨(u.drew.alloc (.cells b.cs.toArray 42)).heap.size, 0, none⟩) 0 0)).eval (.tmp 25) = .slice (some ⟨(u.drew.alloc (.cells b.cs.toArray 42)).heap.size, 0, none⟩) 0 0 by simp [ev_put, sz_put, zA], show ((A.put (some 35) (.slice (some ⟨u.drew.heap.size, 0, none⟩) 1 1)).put (some 25) (.slice (some ⟨(u.drew.alloc (.cells b.cs.toArray 42)).heap.size, 0, none⟩) 0 0)).eval (.tmp 32) = .slice a L c by simp [ev_put, a32]]; rw [hr13]; rfl
    have b13 : Below u.heap.size u w13 := ((Stp.of_below b5 (fun x => u.heap.size ≤ x)).trans (Stp.of_grown hg13 (fun x hx => .inl (by injection hx with hx; subst hx; first | exact Below.size b5 | exact g5le)))).below (Nat.le_refl _) (fun x hx => hx)
    refine hK.out _ _ (hS _ b13) (fun hHeld => ?_)
    clear hK K
    refine wpAnyH_ready (rs := [16]) (by kernel_rfl) (by simp) ?_
    refine AllReadyH.cons (o := { dst := some 36, op := Op.call { callee := Callee.builtin Builtin.append, args := #[Operand.tmp 33, Operand.tmp 35], argTypes := #[73, 73] }, type := 73, pos := ps, after := #[{ on := 13, ground := Ground.data }, { on := 15, ground := Ground.data }, { on := 13, ground := Ground.chain }], guard := none }) rfl (fun K hK => ?_) AllReadyH.nil
    obtain ⟨ie, hie, hiz, hisz, hiby⟩ := info_parts info36
    refine step_append_lies _ rfl (.tmp 33) (.tmp 35) 73 rfl 0 42 ie _ 64 64 u41 hie hiz hisz hiby (by rfl) (by omega) v33 L (flat l) (by simp [ev_put, sz_put, zA]) ho13 ⟨u.drew.heap.size, 0, none⟩ 1 1 b.cs (by simp [ev_put, sz_put, zA]) (by rw [b.cs_len]) (fun j v hv => by have := ((Stp.of_grown hg13 (F := fun x => some x = some ((u.drew.alloc (.cells b.cs.toArray 42)).heap.size)) (fun x hx => .inl hx.symm)).range ((Stp.of_alloc _ _ (fun _ => False)).range (made_range u.drew b.cs 42) id) (fun e => by injection e with e; simp at e)) j v hv; rw [Addr.add_lit]; exact this) b.cs_one (by omega) (by unfold maxLen; omega) (by omega) (Nat.zero_le _) _ rfl ?_
    intro gg cap w16 ho16 hg16 hat16 hlt16
    have n33 : ∀ x, v33.ownBlock = some x → u.heap.size ≤ x := fun x hx => by rcases hat13 with e | e <;> (rw [e] at hx; injection hx with hx; subst hx; first | exact g5le | exact (Below.size b5))
    have b16 : Below u.heap.size u w16 := ((Stp.of_below b13 (fun x => u.heap.size ≤ x)).trans (Stp.of_grown hg16 (fun x hx => .inl (n33 x hx)))).below (Nat.le_refl _) (fun x hx => hx)
    have gle : u.heap.size ≤ gg := by rcases hat16 with e | e; exact n33 gg e; rw [e]; exact Below.size b13
    refine hK.out _ _ (hS _ b16) (fun hHeld => ?_)
    clear hK K
    refine wpAnyH_take (i := 17) (v := .pointer (some ⟨t, i, none⟩)) rfl (by kernel_rfl) (by kernel_rfl) (by kernel_rfl) (fun _ _ _ h => hP _ _ _ _ _ h) (Or.inl ⟨by rfl, ?_⟩) hHeld ?_
    · intro v hv
      simp [execOp, ev_put, a23, a24]
      go_simp
    refine wpAnyH_done (by kernel_rfl) ?_ _
    rw [rest_normal]
    have hq := hQ (.slice (some ⟨(u.drew.alloc (.cells b.cs.toArray 42)).heap.size, 0, none⟩) 0 0) v33 (.slice (some ⟨u.drew.heap.size, 0, none⟩) 1 1) gg cap w16 b16 ho16 gle hlt16
    have c3 : w16.cell? ⟨t, i, none⟩ = some (.slice a L c) := (Stp.of_below b16 (fun _ => False)).cell m1 id
    have z3 : w16.frozen? ⟨t, i, none⟩ = false := by rw [(Stp.of_below b16 (fun _ => False)).frozen (p := ⟨t, i, none⟩) hlt id]; exact hz
    refine frameL_is (B := ((((A.put (some 25) (.slice (some ⟨(u.drew.alloc (.cells b.cs.toArray 42)).heap.size, 0, none⟩) 0 0)).put (some 33) v33).put (some 35) (.slice (some ⟨u.drew.heap.size, 0, none⟩) 1 1)).put (some 36) (.slice (some ⟨gg, 0, none⟩) (L + 1) cap)).put (some 37) (.pointer (some ⟨t, i, none⟩))) (put_sw2 _ _ _ _ _ _ ()) ?_
    refine wpList_skip (w' := w16.setCell ⟨t, i, none⟩ (.slice (some ⟨gg, 0, none⟩) (L + 1) cap)) (by rfl) rfl ?_ hq
    have v1 : (((((A.put (some 25) (.slice (some ⟨(u.drew.alloc (.cells b.cs.toArray 42)).heap.size, 0, none⟩) 0 0)).put (some 33) v33).put (some 35) (.slice (some ⟨u.drew.heap.size, 0, none⟩) 1 1)).put (some 36) (.slice (some ⟨gg, 0, none⟩) (L + 1) cap)).put (some 37) (.pointer (some ⟨t, i, none⟩))).eval (.tmp 37) = .pointer (some ⟨t, i, none⟩) := by simp [ev_put, sz_put, zA]
    have v2 : (((((A.put (some 25) (.slice (some ⟨(u.drew.alloc (.cells b.cs.toArray 42)).heap.size, 0, none⟩) 0 0)).put (some 33) v33).put (some 35) (.slice (some ⟨u.drew.heap.size, 0, none⟩) 1 1)).put (some 36) (.slice (some ⟨gg, 0, none⟩) (L + 1) cap)).put (some 37) (.pointer (some ⟨t, i, none⟩))).eval (.tmp 36) = .slice (some ⟨gg, 0, none⟩) (L + 1) cap := by simp [ev_put, sz_put, zA]
    clear hq hQ hHeld
    simp only [execOp, v1, v2]
    go_simp
end Go.Proofs.Ytecedklfdmbnpaa
