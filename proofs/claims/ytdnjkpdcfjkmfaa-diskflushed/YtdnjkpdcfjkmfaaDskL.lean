/-
  Another region of the law DiskFlushed that draws its order ('found = found || shown[k][i] == b'), over whatever frame: no statement is proved here.
-/
import Derived.Test.YtdnjkpdcfjkmfaaDskK
namespace Go.Proofs.Ytdnjkpdcfjkmfaa.diskFlushed
open Go.ChangeShapes Go.WideShapes Go.ChangeAt Go.RowKit
set_option linter.unusedVariables false

theorem tm_put (a : Act) (i j : Tmp) (v : Value) : (a.put (some i) v).tmps[j]? = if j = i ∧ i < a.tmps.size then some v else a.tmps[j]? := by
  unfold Act.put
  by_cases e : j = i
  · subst e
    by_cases h : j < a.tmps.size
    · simp [h]
    · simp [h]
  · have e' : ¬ i = j := fun h => e h.symm
    simp [e, e']
def after31 (a : Act) (k4 h r ro n5 c i5 : Nat) (X Y : Blk) : Act := ((((((((((((a.put (some 125) (.bool false)).put (some 126) (.bool false)).put (some 127) (.int .i64 k4)).put (some 128) (.pointer (some ⟨h, k4, none⟩))).put (some 129) (.slice (some ⟨r, ro, none⟩) n5 c)).put (some 130) (.int .i64 i5)).put (some 131) (.pointer (some ⟨r, ro + i5 * 64, none⟩))).put (some 132) (.agg Y.cs.toArray)).put (some 133) (.agg X.cs.toArray)).put (some 134) (.bool (decide (Y = X)))).put (some 135) (.bool (decide (Y = X)))).put (some 19) (.bool (decide (Y = X))))
set_option maxRecDepth 100000 in
set_option maxHeartbeats 2000000 in
theorem region31 {ps : String} {Q : Exit → Act → World → Prop} (hP : ∀ c a (i : Tmp) v w, Q (.panic c) (Act.put a (some i) v) w → Q (.panic c) a w) {a : Act} {u : World} {k4 h t r ro n5 c i5 : Nat} {X Y : Blk}
    (hs : a.tmps.size = 148) (e19 : a.eval (.tmp 19) = .bool false) (e16 : a.eval (.tmp 16) = .int .i64 k4) (e10 : a.eval (.tmp 10) = .pointer (some ⟨h, 0, none⟩)) (e20 : a.eval (.tmp 20) = .int .i64 i5) (e17 : a.eval (.tmp 17) = .pointer (some ⟨t, 0, none⟩))
    (hk : k4 < 8) (hi : i5 < n5) (m1 : u.cell? ⟨h, k4, none⟩ = some (.slice (some ⟨r, ro, none⟩) n5 c)) (hY : u.rangeAt r (ro + i5 * 64) Y.cs) (hX : u.rangeAt t 0 X.cs)
    (hQ : Q .normal (after31 a k4 h r ro n5 c i5 X Y) u.drew) :
    (Code.region 31
    #[{ dst := some 125, op := Op.move (Operand.tmp 19), type := 4, pos := ps, after := #[], guard := none },
      { dst := some 126, op := Op.move (Operand.tmp 125), type := 4, pos := ps,
        after := #[{ on := 0, ground := Ground.data }], guard := none },
      { dst := some 127, op := Op.move (Operand.tmp 16), type := 3, pos := ps,
        after := #[{ on := 1, ground := Ground.guard }], guard := some (1, false) },
      { dst := some 128, op := Op.indexAddr 36 (Operand.tmp 10) (Operand.tmp 127), type := 0, pos := ps,
        after := #[{ on := 2, ground := Ground.data }, { on := 1, ground := Ground.guard }], guard := some (1, false) },
      { dst := some 129, op := Op.load 35 (Operand.tmp 128), type := 35, pos := ps,
        after := #[{ on := 3, ground := Ground.data }, { on := 1, ground := Ground.guard }], guard := some (1, false) },
      { dst := some 130, op := Op.move (Operand.tmp 20), type := 3, pos := ps,
        after := #[{ on := 1, ground := Ground.guard }], guard := some (1, false) },
      { dst := some 131, op := Op.indexAddr 35 (Operand.tmp 129) (Operand.tmp 130), type := 0, pos := ps,
        after :=
          #[{ on := 4, ground := Ground.data }, { on := 5, ground := Ground.data },
            { on := 1, ground := Ground.guard }],
        guard := some (1, false) },
      { dst := some 132, op := Op.load 32 (Operand.tmp 131), type := 32, pos := ps,
        after := #[{ on := 6, ground := Ground.data }, { on := 1, ground := Ground.guard }], guard := some (1, false) },
      { dst := some 133, op := Op.load 32 (Operand.tmp 17), type := 32, pos := ps,
        after := #[{ on := 1, ground := Ground.guard }], guard := some (1, false) },
      { dst := some 134, op := Op.binOp BinOp.eql 32 (Operand.tmp 132) (Operand.tmp 133) 32, type := 4,
        pos := ps,
        after :=
          #[{ on := 7, ground := Ground.data }, { on := 8, ground := Ground.data },
            { on := 1, ground := Ground.guard }],
        guard := some (1, false) },
      { dst := some 135, op := Op.pick (Operand.tmp 126) (Operand.const (Value.bool true)) (Operand.tmp 134), type := 4,
        pos := ps, after := #[{ on := 1, ground := Ground.data }, { on := 9, ground := Ground.data }],
        guard := none },
      { dst := some 19, op := Op.assign (Operand.tmp 135), type := 4, pos := ps,
        after :=
          #[{ on := 10, ground := Ground.data }, { on := 1, ground := Ground.chain },
            { on := 0, ground := Ground.phase }, { on := 1, ground := Ground.phase },
            { on := 2, ground := Ground.phase }, { on := 3, ground := Ground.phase },
            { on := 4, ground := Ground.phase }, { on := 5, ground := Ground.phase },
            { on := 6, ground := Ground.phase }, { on := 7, ground := Ground.phase },
            { on := 8, ground := Ground.phase }, { on := 9, ground := Ground.phase },
            { on := 10, ground := Ground.phase }],
        guard := none }]
    true).wp Try.prog Q a u := by
  have i1 : (0 : Int) ≤ (k4 : Int) := by omega
  have i2 : (k4 : Int) < 8 := by omega
  have i3 : (0 : Int) ≤ (i5 : Int) := by omega
  have i4 : (i5 : Int) < (n5 : Int) := by omega
  have e36 := eq36
  have g36 := guard36
  have sD := (Stp.refl (fun _ => False) u).drew
  refine wp_region_held_drew (S := fun u => u.cell? ⟨h, k4, none⟩ = some (.slice (some ⟨r, ro, none⟩) n5 c) ∧ u.rangeAt r (ro + i5 * 64) Y.cs ∧ u.rangeAt t 0 X.cs) (by kernel_rfl) ⟨sD.cell m1 id, sD.range hY id, sD.range hX id⟩ (fun hHeld => ?_)
  refine wpAnyH_take (i := 0) (v := .bool false) rfl (by kernel_rfl) (by kernel_rfl) (by kernel_rfl) (fun _ _ _ h => hP _ _ _ _ _ h) (Or.inl ⟨by rfl, ?_⟩) hHeld ?_
  · intro v hv
    simp [execOp, e19]
  refine wpAnyH_take (i := 1) (v := .bool false) rfl (by kernel_rfl) (by kernel_rfl) (by kernel_rfl) (fun _ _ _ h => hP _ _ _ _ _ h) (Or.inl ⟨by rfl, ?_⟩) hHeld ?_
  · intro v hv
    simp [execOp, ev_put, hs]
  refine wpAnyH_take (i := 2) (v := .int .i64 k4) rfl (by kernel_rfl) (by kernel_rfl) (by kernel_rfl) (fun _ _ _ h => hP _ _ _ _ _ h) (Or.inl ⟨by simp [Region.wanted, yielded, tm_put, sz_put, hs], ?_⟩) hHeld ?_
  · intro v hv
    simp [execOp, ev_put, e16]
  refine wpAnyH_take (i := 3) (v := .pointer (some ⟨h, k4, none⟩)) rfl (by kernel_rfl) (by kernel_rfl) (by kernel_rfl) (fun _ _ _ h => hP _ _ _ _ _ h) (Or.inl ⟨by simp [Region.wanted, yielded, tm_put, sz_put, hs], ?_⟩) hHeld ?_
  · intro v hv
    simp [execOp, ev_put, sz_put, hs, e10]
    go_simp
  refine wpAnyH_take (i := 4) (v := .slice (some ⟨r, ro, none⟩) n5 c) rfl (by kernel_rfl) (by kernel_rfl) (by kernel_rfl) (fun _ _ _ h => hP _ _ _ _ _ h) (Or.inl ⟨by simp [Region.wanted, yielded, tm_put, sz_put, hs], ?_⟩) hHeld ?_
  · intro v hv
    obtain ⟨hv1, _⟩ := hv
    simp [execOp, ev_put, sz_put, hs]
    go_simp
  refine wpAnyH_take (i := 5) (v := .int .i64 i5) rfl (by kernel_rfl) (by kernel_rfl) (by kernel_rfl) (fun _ _ _ h => hP _ _ _ _ _ h) (Or.inl ⟨by simp [Region.wanted, yielded, tm_put, sz_put, hs], ?_⟩) hHeld ?_
  · intro v hv
    simp [execOp, ev_put, e20]
  refine wpAnyH_take (i := 6) (v := .pointer (some ⟨r, ro + i5 * 64, none⟩)) rfl (by kernel_rfl) (by kernel_rfl) (by kernel_rfl) (fun _ _ _ h => hP _ _ _ _ _ h) (Or.inl ⟨by simp [Region.wanted, yielded, tm_put, sz_put, hs], ?_⟩) hHeld ?_
  · intro v hv
    simp [execOp, ev_put, sz_put, hs]
    go_simp
  refine wpAnyH_take (i := 7) (v := .agg Y.cs.toArray) rfl (by kernel_rfl) (by kernel_rfl) (by kernel_rfl) (fun _ _ _ h => hP _ _ _ _ _ h)
    (yieldsIf_load_mid (by simp [Region.wanted, yielded, tm_put, sz_put, hs]) 32 (.tmp 131) rfl r (ro + i5 * 64) (by simp [ev_put, sz_put, hs]) Y.cs _ (fun v hv => hv.2.1) u36 rfl (size36 Y)) hHeld ?_
  refine wpAnyH_take (i := 8) (v := .agg X.cs.toArray) rfl (by kernel_rfl) (by kernel_rfl) (by kernel_rfl) (fun _ _ _ h => hP _ _ _ _ _ h)
    (yieldsIf_load_mid (by simp [Region.wanted, yielded, tm_put, sz_put, hs]) 32 (.tmp 17) rfl t 0 (by simp [ev_put, e17]) X.cs _ (fun v hv => hv.2.2) u36 rfl (size36 X)) hHeld ?_
  refine wpAnyH_take (i := 9) (v := .bool (decide (Y = X))) rfl (by kernel_rfl) (by kernel_rfl) (by kernel_rfl) (fun _ _ _ h => hP _ _ _ _ _ h) (Or.inl ⟨by simp [Region.wanted, yielded, tm_put, sz_put, hs], ?_⟩) hHeld ?_
  · intro v hv
    simp [execOp, ev_put, sz_put, hs]
    go_simp
  refine wpAnyH_take (i := 10) (v := .bool (decide (Y = X))) rfl (by kernel_rfl) (by kernel_rfl) (by kernel_rfl) (fun _ _ _ h => hP _ _ _ _ _ h) (Or.inl ⟨by rfl, ?_⟩) hHeld ?_
  · intro v hv
    simp [execOp, ev_put, sz_put, hs]
    go_simp
  refine wpAnyH_take (i := 11) (v := .bool (decide (Y = X))) rfl (by kernel_rfl) (by kernel_rfl) (by kernel_rfl) (fun _ _ _ h => hP _ _ _ _ _ h) (Or.inl ⟨by rfl, ?_⟩) hHeld ?_
  · intro v hv
    simp [execOp, ev_put, sz_put, hs]
  refine wpAnyH_done (by kernel_rfl) ?_ _
  exact hQ
end Go.Proofs.Ytdnjkpdcfjkmfaa.diskFlushed
