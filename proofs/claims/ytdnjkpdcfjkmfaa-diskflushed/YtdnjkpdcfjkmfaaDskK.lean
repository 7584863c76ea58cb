/-
  One region of the law DiskFlushed that draws its order ('shown[k] = append(shown[k], more[i].B)'), over whatever frame: no statement is proved here.
-/
import Derived.Test.YtdnjkpdcfjkmfaaDskJ
namespace Go.Proofs.Ytdnjkpdcfjkmfaa.diskFlushed
open Go.ChangeShapes Go.WideShapes Go.ChangeAt Go.RowKit
set_option linter.unusedVariables false

theorem ev_put (a : Act) (i j : Tmp) (v : Value) : (a.put (some i) v).eval (.tmp j) = if j = i ∧ i < a.tmps.size then v else a.eval (.tmp j) := by
  unfold Act.put Act.eval
  by_cases e : j = i
  · subst e
    by_cases h : j < a.tmps.size
    · simp [h]
    · simp [h]
  · have e' : ¬ i = j := fun h => e h.symm
    simp [e, e']
theorem sz_put (a : Act) (i : Tmp) (v : Value) : (a.put (some i) v).tmps.size = a.tmps.size := by unfold Act.put; simp

theorem frame_is {P : Program} {md : Region.Mode} {ops : Array Oper} {Q : Exit → Act → World → Prop} {S : World → Prop} {n : Nat} {l : Array Bool} {A B : Act} {w : World} (e : A = B) (h : wpAnyH P md ops Q S n l B w) : wpAnyH P md ops Q S n l A w := e ▸ h
theorem frameL_is {P : Program} {ops : Array Oper} {Q : Exit → Act → World → Prop} {l : List Oper} {A B : Act} {w : World} (e : A = B) (h : wpList P ops Q l B w) : wpList P ops Q l A w := e ▸ h
theorem rest_normal {P : Program} {ops : Array Oper} {o : Oper} {Q : Exit → Act → World → Prop} {a : Act} {w : World} : Rest P ops o Q .normal a w = wpList P (ops.push o) Q [o] a w := rfl
theorem wp_of_run {o : Oper} {a : Act} {w w' : World} {v : Value} {K : Act → World → Prop} {Q : Exit → Act → World → Prop} (h : (execOp a.eval o).run Try.prog w = .ok (.value v) w') (hK : K (a.put o.dst v) w') : Oper.wp Try.prog o a w K Q := by
  unfold Oper.wp; rw [h]; exact hK
theorem wpList_skip {ops : Array Oper} {o : Oper} {a : Act} {w w' : World} {Q : Exit → Act → World → Prop} (hw : Region.wanted o (yielded ops a.tmps) = true) (hd : o.dst = none) (h : (execOp a.eval o).run Try.prog w = .ok .skip w') (hQ : Q .normal a w') : wpList Try.prog ops Q [o] a w := by
  unfold wpList
  rw [if_pos hw]
  refine .inl ?_
  unfold Oper.wp; rw [h]; simp only [Oper.upon, hd]; exact hQ
/-- The frame behind the region. -/
def after21 (a : Act) (m h b p k3 : Nat) (sl ac bl li ap : Value) : Act :=
  ((((((((((((a.put (some 92) (.int .i64 m)).put (some 93) (.int .i64 m)).put (some 94) (.pointer (some ⟨h, m, none⟩))).put (some 95) sl).put (some 96) ac).put (some 97) (.int .i64 k3)).put (some 98) (.pointer (some ⟨b, p, none⟩))).put (some 99) (.pointer (some ⟨b, p + 2, none⟩))).put (some 100) bl).put (some 101) li).put (some 102) ap).put (some 103) (.pointer (some ⟨h, m, none⟩)))

set_option maxRecDepth 100000 in
set_option maxHeartbeats 2000000 in
theorem region21 {ps : String} {Q : Exit → Act → World → Prop} (hP : ∀ c a (i : Tmp) v w, Q (.panic c) (Act.put a (some i) v) w → Q (.panic c) a w) {a : Act} {u : World} {h m b o n1 c1 k3 c : Nat} {aa : Option Addr} {L : List Blk} {B : Blk}
    (hs : a.tmps.size = 148) (e10 : a.eval (.tmp 10) = .pointer (some ⟨h, 0, none⟩)) (e15 : a.eval (.tmp 15) = .int .i64 m) (e1 : a.eval (.tmp 1) = .slice (some ⟨b, o, none⟩) n1 c1) (e14 : a.eval (.tmp 14) = .int .i64 k3)
    (hm : m < 8) (hk : k3 < n1) (m1 : u.cell? ⟨h, m, none⟩ = some (.slice aa L.length c)) (hz : u.frozen? ⟨h, m, none⟩ = false) (hlt : h < u.heap.size)
    (e3 : u.rangeAt b (o + k3 * 67 + 2) B.cs) (hown : u.ownsRow 0 32 64 (.slice aa L.length c) L.length (flat L)) (hself : ∀ y, (Value.slice aa L.length c).ownBlock = some y → y ≠ h ∧ y ≠ b) (hL : L.length ≤ 1000)
    (hQ : ∀ gg cap w3, (u.alloc (.cells B.cs.toArray 32)).drew.grownBy w3 (Value.slice aa L.length c).ownBlock →
      w3.ownsRow 0 32 64 (.slice (some ⟨gg, 0, none⟩) (L.length + 1) cap) (L.length + 1) (flat L ++ B.cs) → ((Value.slice aa L.length c).ownBlock = some gg ∨ gg = u.heap.size + 1) → gg < w3.heap.size →
      Q .normal (after21 a m h b (o + k3 * 67) k3 (.slice aa L.length c) (.slice (some ⟨b, o, none⟩) n1 c1) (.agg B.cs.toArray) (.slice (some ⟨u.heap.size, 0, none⟩) 1 1) (.slice (some ⟨gg, 0, none⟩) (L.length + 1) cap)) (w3.setCell ⟨h, m, none⟩ (.slice (some ⟨gg, 0, none⟩) (L.length + 1) cap))) :
    (Code.region 21
    #[{ dst := some 92, op := Op.move (Operand.tmp 15), type := 3, pos := ps, after := #[], guard := none },
      { dst := some 93, op := Op.move (Operand.tmp 15), type := 3, pos := ps, after := #[], guard := none },
      { dst := some 94, op := Op.indexAddr 36 (Operand.tmp 10) (Operand.tmp 93), type := 0, pos := ps,
        after := #[{ on := 1, ground := Ground.data }], guard := none },
      { dst := some 95, op := Op.load 35 (Operand.tmp 94), type := 35, pos := ps,
        after := #[{ on := 2, ground := Ground.data }], guard := none },
      { dst := some 96, op := Op.move (Operand.tmp 1), type := 22, pos := ps, after := #[], guard := none },
      { dst := some 97, op := Op.move (Operand.tmp 14), type := 3, pos := ps, after := #[], guard := none },
      { dst := some 98, op := Op.indexAddr 22 (Operand.tmp 96) (Operand.tmp 97), type := 0, pos := ps,
        after := #[{ on := 4, ground := Ground.data }, { on := 5, ground := Ground.data }], guard := none },
      { dst := some 99, op := Op.fieldAddr 34 (Operand.tmp 98) 2, type := 0, pos := ps,
        after := #[{ on := 6, ground := Ground.data }], guard := none },
      { dst := some 100, op := Op.load 32 (Operand.tmp 99), type := 32, pos := ps,
        after := #[{ on := 7, ground := Ground.data }], guard := none },
      { dst := some 101, op := Op.buildSlice 35 1 #[(0, Operand.tmp 100)], type := 35, pos := ps,
        after := #[{ on := 8, ground := Ground.data }], guard := none },
      { dst := some 102,
        op :=
          Op.call
            { callee := Callee.builtin Builtin.append, args := #[Operand.tmp 95, Operand.tmp 101],
              argTypes := #[35, 35] },
        type := 35, pos := ps,
        after := #[{ on := 3, ground := Ground.data }, { on := 9, ground := Ground.data }], guard := none },
      { dst := some 103, op := Op.indexAddr 36 (Operand.tmp 10) (Operand.tmp 92), type := 0, pos := ps,
        after :=
          #[{ on := 0, ground := Ground.data }, { on := 0, ground := Ground.phase },
            { on := 1, ground := Ground.phase }, { on := 2, ground := Ground.phase },
            { on := 3, ground := Ground.phase }, { on := 4, ground := Ground.phase },
            { on := 5, ground := Ground.phase }, { on := 6, ground := Ground.phase },
            { on := 7, ground := Ground.phase }, { on := 8, ground := Ground.phase },
            { on := 9, ground := Ground.phase }, { on := 10, ground := Ground.phase }],
        guard := none },
      { dst := none, op := Op.store 35 (Operand.tmp 103) (Operand.tmp 102), type := 0, pos := ps,
        after :=
          #[{ on := 11, ground := Ground.data }, { on := 10, ground := Ground.data },
            { on := 10, ground := Ground.chain }, { on := 0, ground := Ground.phase },
            { on := 1, ground := Ground.phase }, { on := 2, ground := Ground.phase },
            { on := 3, ground := Ground.phase }, { on := 4, ground := Ground.phase },
            { on := 5, ground := Ground.phase }, { on := 6, ground := Ground.phase },
            { on := 7, ground := Ground.phase }, { on := 8, ground := Ground.phase },
            { on := 9, ground := Ground.phase }, { on := 10, ground := Ground.phase }],
        guard := none }]
    true).wp Try.prog Q a u := by
  have i1 : (0 : Int) ≤ (m : Int) := by omega
  have i2 : (m : Int) < 8 := by omega
  have i3 : (0 : Int) ≤ (k3 : Int) := by omega
  have i4 : (k3 : Int) < (n1 : Int) := by omega
  have hS : ∀ v, Stp (fun y => (Value.slice aa L.length c).ownBlock = some y) u v → (v.cell? ⟨h, m, none⟩ = some (.slice aa L.length c) ∧ v.rangeAt b (o + k3 * 67 + 2) B.cs) := fun v s => ⟨s.cell m1 (fun e => (hself h e).1 rfl), s.range e3 (fun e => (hself b e).2 rfl)⟩
  refine wp_region_last (S := fun u => u.cell? ⟨h, m, none⟩ = some (.slice aa L.length c) ∧ u.rangeAt b (o + k3 * 67 + 2) B.cs) _ _ (by simp only [List.pop_toArray, List.dropLast_cons_cons, List.dropLast_singleton]; rfl) (by simp only [List.back?_toArray, List.getLast?_cons_cons, List.getLast?_singleton]; rfl) (by kernel_rfl) (by kernel_rfl) (hS _ (Stp.refl _ _).drew) (fun hHeld => ?_)
  refine wpAnyH_take (i := 0) (v := .int .i64 m) rfl (by kernel_rfl) (by kernel_rfl) (by kernel_rfl) (fun _ _ _ h => hP _ _ _ _ _ h) (Or.inl ⟨by rfl, ?_⟩) hHeld ?_
  · intro v hv
    simp [execOp, e15]
  refine wpAnyH_take (i := 1) (v := .int .i64 m) rfl (by kernel_rfl) (by kernel_rfl) (by kernel_rfl) (fun _ _ _ h => hP _ _ _ _ _ h) (Or.inl ⟨by rfl, ?_⟩) hHeld ?_
  · intro v hv
    simp [execOp, ev_put, e15]
  refine wpAnyH_take (i := 2) (v := .pointer (some ⟨h, m, none⟩)) rfl (by kernel_rfl) (by kernel_rfl) (by kernel_rfl) (fun _ _ _ h => hP _ _ _ _ _ h) (Or.inl ⟨by rfl, ?_⟩) hHeld ?_
  · intro v hv
    simp [execOp, ev_put, sz_put, hs, e10]
    go_simp
  refine wpAnyH_take (i := 3) (v := .slice aa L.length c) rfl (by kernel_rfl) (by kernel_rfl) (by kernel_rfl) (fun _ _ _ h => hP _ _ _ _ _ h) (Or.inl ⟨by rfl, ?_⟩) hHeld ?_
  · intro v hv
    obtain ⟨hv1, hv2⟩ := hv
    simp [execOp, ev_put, sz_put, hs]
    go_simp
  refine wpAnyH_take (i := 4) (v := .slice (some ⟨b, o, none⟩) n1 c1) rfl (by kernel_rfl) (by kernel_rfl) (by kernel_rfl) (fun _ _ _ h => hP _ _ _ _ _ h) (Or.inl ⟨by rfl, ?_⟩) hHeld ?_
  · intro v hv
    simp [execOp, ev_put, e1]
  refine wpAnyH_take (i := 5) (v := .int .i64 k3) rfl (by kernel_rfl) (by kernel_rfl) (by kernel_rfl) (fun _ _ _ h => hP _ _ _ _ _ h) (Or.inl ⟨by rfl, ?_⟩) hHeld ?_
  · intro v hv
    simp [execOp, ev_put, e14]
  refine wpAnyH_take (i := 6) (v := .pointer (some ⟨b, o + k3 * 67, none⟩)) rfl (by kernel_rfl) (by kernel_rfl) (by kernel_rfl) (fun _ _ _ h => hP _ _ _ _ _ h) (Or.inl ⟨by rfl, ?_⟩) hHeld ?_
  · intro v hv
    simp [execOp, ev_put, sz_put, hs]
    go_simp
  refine wpAnyH_take (i := 7) (v := .pointer (some ⟨b, o + k3 * 67 + 2, none⟩)) rfl (by kernel_rfl) (by kernel_rfl) (by kernel_rfl) (fun _ _ _ h => hP _ _ _ _ _ h) (Or.inl ⟨by rfl, ?_⟩) hHeld ?_
  · intro v hv
    simp [execOp, ev_put, sz_put, hs]
    go_simp
  refine wpAnyH_take (i := 8) (v := .agg B.cs.toArray) rfl (by kernel_rfl) (by kernel_rfl) (by kernel_rfl) (fun _ _ _ h => hP _ _ _ _ _ h)
    (yieldsIf_load_mid (by rfl) 32 (.tmp 99) rfl b (o + k3 * 67 + 2) (by simp [ev_put, sz_put, hs]) B.cs _ (fun v hv => hv.2) u36 rfl (size36 B)) hHeld ?_
  refine frame_is (B := (((((((((a.put (some 92) (.int .i64 m)).put (some 93) (.int .i64 m)).put (some 94) (.pointer (some ⟨h, m, none⟩))).put (some 95) (.slice aa L.length c)).put (some 96) (.slice (some ⟨b, o, none⟩) n1 c1)).put (some 97) (.int .i64 k3)).put (some 98) (.pointer (some ⟨b, o + k3 * 67, none⟩))).put (some 99) (.pointer (some ⟨b, o + k3 * 67 + 2, none⟩))).put (some 100) (.agg B.cs.toArray))) rfl ?_
  refine wpAnyH_ready (rs := [9]) (by kernel_rfl) (by simp) ?_
  refine AllReadyH.cons (o := { dst := some 101, op := Op.buildSlice 35 1 #[(0, Operand.tmp 100)], type := 35, pos := ps, after := #[{ on := 8, ground := Ground.data }], guard := none }) rfl (fun K hK => ?_) AllReadyH.nil
  rw [if_pos (by rfl)]
  refine wp_of_run (v := .slice (some ⟨u.heap.size, 0, none⟩) 1 1) (w' := (u.alloc (.cells B.cs.toArray 32)).drew) ?_ ?_
  · simp only [execOp, Sem.run_bind, List.map_toArray, List.map_cons, List.map_nil]
    rw [show ((((((((((a.put (some 92) (.int .i64 m)).put (some 93) (.int .i64 m)).put (some 94) (.pointer (some ⟨h, m, none⟩))).put (some 95) (.slice aa L.length c)).put (some 96) (.slice (some ⟨b, o, none⟩) n1 c1)).put (some 97) (.int .i64 k3)).put (some 98) (.pointer (some ⟨b, o + k3 * 67, none⟩))).put (some 99) (.pointer (some ⟨b, o + k3 * 67 + 2, none⟩))).put (some 100) (.agg B.cs.toArray))).eval (.tmp 100) = .agg B.cs.toArray by simp [ev_put, sz_put, hs]]
    rw [lit36]; rfl
  refine hK.out _ _ (hS _ ((Stp.of_alloc _ _ _).drew)) (fun hHeld => ?_)
  clear hK K
  refine wpAnyH_ready (rs := [10]) (by kernel_rfl) (by simp) ?_
  refine AllReadyH.cons (o := { dst := some 102, op := Op.call { callee := Callee.builtin Builtin.append, args := #[Operand.tmp 95, Operand.tmp 101], argTypes := #[35, 35] }, type := 35, pos := ps, after := #[{ on := 3, ground := Ground.data }, { on := 9, ground := Ground.data }], guard := none }) rfl (fun K hK => ?_) AllReadyH.nil
  obtain ⟨ie, hie, hiz, hisz, hiby⟩ := info_parts info36
  refine step_append_lies _ rfl (.tmp 95) (.tmp 101) 35 rfl 0 32 ie _ 64 64 u41 hie hiz hisz hiby (by rfl) (by omega) (.slice aa L.length c) L.length (flat L) (by simp [ev_put, sz_put, hs]) ((hown.alloc _).drew) ⟨u.heap.size, 0, none⟩ 1 1 B.cs (by simp [ev_put, sz_put, hs]) (by rw [B.cs_len])
    (fun j v hv => World.news_of_block (w := (u.alloc (.cells B.cs.toArray 32)).drew) (cs := B.cs.toArray) (t := 32) (fr := (0, 0)) (heap_alloc_new u _) j v (by simpa using hv)) B.cs_one (by omega) (by unfold maxLen; omega) (by omega) (Nat.zero_le _) (u.heap.size + 1) (by simp) ?_
  intro gg cap w3 ho3 hg3 hat3 hlt3
  have kU : Stp (fun y => (Value.slice aa L.length c).ownBlock = some y) u w3 := (Stp.of_alloc _ _ _).drew.trans (Stp.of_grown hg3 (fun x hx => .inl hx))
  refine hK.out _ _ (hS _ kU) (fun hHeld => ?_)
  clear hK K
  refine wpAnyH_take (i := 11) (v := .pointer (some ⟨h, m, none⟩)) rfl (by kernel_rfl) (by kernel_rfl) (by kernel_rfl) (fun _ _ _ h => hP _ _ _ _ _ h) (Or.inl ⟨by rfl, ?_⟩) hHeld ?_
  · intro v hv
    simp [execOp, ev_put, sz_put, hs, e10]
    go_simp
  refine wpAnyH_done (by kernel_rfl) ?_ _
  have c3 : w3.cell? ⟨h, m, none⟩ = some (.slice aa L.length c) := kU.cell m1 (fun e => (hself h e).1 rfl)
  have z3 : w3.frozen? ⟨h, m, none⟩ = false := by rw [kU.frozen (p := ⟨h, m, none⟩) hlt (fun e => (hself h e).1 rfl)]; exact hz
  have hq := hQ gg cap w3 hg3 ho3 hat3 hlt3
  rw [rest_normal]
  refine frameL_is (B := after21 a m h b (o + k3 * 67) k3 (.slice aa L.length c) (.slice (some ⟨b, o, none⟩) n1 c1) (.agg B.cs.toArray) (.slice (some ⟨u.heap.size, 0, none⟩) 1 1) (.slice (some ⟨gg, 0, none⟩) (L.length + 1) cap)) rfl ?_
  refine wpList_skip (w' := w3.setCell ⟨h, m, none⟩ (.slice (some ⟨gg, 0, none⟩) (L.length + 1) cap)) (by rfl) rfl ?_ ?_
  · have v1 : (after21 a m h b (o + k3 * 67) k3 (.slice aa L.length c) (.slice (some ⟨b, o, none⟩) n1 c1) (.agg B.cs.toArray) (.slice (some ⟨u.heap.size, 0, none⟩) 1 1) (.slice (some ⟨gg, 0, none⟩) (L.length + 1) cap)).eval (.tmp 103) = .pointer (some ⟨h, m, none⟩) := by unfold after21; simp [ev_put, sz_put, hs]
    have v2 : (after21 a m h b (o + k3 * 67) k3 (.slice aa L.length c) (.slice (some ⟨b, o, none⟩) n1 c1) (.agg B.cs.toArray) (.slice (some ⟨u.heap.size, 0, none⟩) 1 1) (.slice (some ⟨gg, 0, none⟩) (L.length + 1) cap)).eval (.tmp 102) = .slice (some ⟨gg, 0, none⟩) (L.length + 1) cap := by unfold after21; simp [ev_put, sz_put, hs]
    generalize after21 a m h b (o + k3 * 67) k3 (.slice aa L.length c) (.slice (some ⟨b, o, none⟩) n1 c1) (.agg B.cs.toArray) (.slice (some ⟨u.heap.size, 0, none⟩) 1 1) (.slice (some ⟨gg, 0, none⟩) (L.length + 1) cap) = A at *
    simp only [execOp, v1, v2]
    clear hq hown ho3 hg3 hHeld hS e3 hQ
    go_simp
  · exact hq

/-- Behind the crash. -/
structure I4 (w wr : World) (g h : Nat) (S : DS) (L : Nat → List Blk) (v : Nat → Value) (F E : Nat → Prop) : Prop where
  d : DD wr g (.pointer none) S none F (fun _ => False)
  n : S.n = 8
  wt : ∀ k, S.wt k = []
  mem : ∀ j : Nat, S.st j ∈ L j
  s : Sh wr h L v E
  len : ∀ j, (L j).length ≤ 1000
  bel : Below w.heap.size w wr
theorem I4.later {w wr wx : World} {g h : Nat} {S : DS} {L : Nat → List Blk} {v : Nat → Value} {F E : Nat → Prop} (I : I4 w wr g h S L v F E) (b : Below wr.heap.size wr wx) : I4 w wx g h S L v F E :=
  ⟨I.d.step (Stp.of_below b (fun _ => False)) (fun _ _ => id) (fun _ _ => id), I.n, I.wt, I.mem, I.s.step (Stp.of_below b (fun _ => False)) (fun _ _ => id), I.len, bnext I.bel b (Nat.le_refl _)⟩
theorem getLastD_mem (l : List Blk) (d : Blk) : l.getLastD d ∈ d :: l := by
  cases l with
  | nil => simp
  | cons x t => rw [List.getLastD_cons]; exact List.mem_cons_of_mem _ (by
      cases t with
      | nil => simp
      | cons y t => rw [List.getLastD_eq_getLast?, List.getLast?_eq_some_getLast (by simp)]; simp)
theorem crashed_mem (S : DS) (keep : List Int) (k : Int) : S.crashed keep k ∈ S.st k :: S.wt k := by
  unfold DS.crashed shownBy
  have := getLastD_mem ((S.wt k).take (keptN keep k (S.wt k).length)) (S.st k)
  rcases List.mem_cons.1 this with e | e
  · rw [e]; exact List.mem_cons_self
  · exact List.mem_cons_of_mem _ (List.mem_of_mem_take e)
theorem I3.crash {w wr w' : World} {g h k : Nat} {S : DS} {v : Nat → Value} {F E : Nat → Prop} {keep : List Int} (I : I3 w wr g h k S v F E) (hk : k ≤ 40) (d : Disk w' g (.pointer none) (S.crash keep) F) (s : Stp F wr w') :
    I4 w w' g h (S.crash keep) (fun j => S.st j :: S.wt j) v F E :=
  ⟨⟨d, rfl, fun _ _ => id, fun _ h => h.elim⟩, I.i.n, fun _ => rfl, fun j => crashed_mem S keep j, I.s.step s (fun x hx e => I.fe x e hx), fun j => by have := I.i.len j; simp; omega,
   ((Stp.of_below I.i.bel (fun x => w.heap.size ≤ x)).next s (fun x hx => .inl (I.i.hF x hx))).below (Nat.le_refl _) (fun x hx => hx)⟩
/-- What is found of the first i. -/
def fnd (l : List Blk) (b : Blk) (i : Nat) : Bool := (l.take i).any (fun x => decide (x = b))
theorem fnd_zero (l : List Blk) (b : Blk) : fnd l b 0 = false := by unfold fnd; simp
theorem fnd_succ (l : List Blk) (b : Blk) (i : Nat) (h : i < l.length) : fnd l b (i + 1) = (fnd l b i || decide (l.getD i Blk.zero = b)) := by
  unfold fnd
  rw [List.take_add_one, List.getElem?_eq_getElem h, List.any_append, List.getD_eq_getElem?_getD, List.getElem?_eq_getElem h]
  simp
theorem fnd_all (l : List Blk) (b : Blk) (h : b ∈ l) : fnd l b l.length = true := by
  unfold fnd
  rw [List.take_length, List.any_eq_true]
  exact ⟨b, h, by simp⟩
theorem own_bls {w : World} {a : Option Addr} {c : Nat} {l : List Blk} (h : w.ownsRow 0 32 64 (.slice a l.length c) l.length (flat l)) : Bls w a l.length c l := by
  rcases h.2 with ⟨e, h0⟩ | ⟨g, cap, cur, e, _⟩
  · injection e with e1 e2 e3; subst e1; subst e3
    rw [List.eq_nil_of_length_eq_zero h0]; exact Bls.nilSlice w
  · injection e with e1 e2 e3; subst e1
    exact Bls.own h rfl
end Go.Proofs.Ytdnjkpdcfjkmfaa.diskFlushed
