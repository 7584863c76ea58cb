/-
  Texts of my own, joined: no statement is proved here.
-/
import Derived.Test.YtgdnhkdfcjpdiaaGreatDoorJaq
set_option linter.unusedSimpArgs false
set_option linter.unusedVariables false
namespace Go.Proofs.YtgdnhkdfcjpdiaaGreatDoor
open Go.ChangeShapes Go.WideShapes Go.ChangeAt Go.RowKit
theorem fold_set : ∀ (vs : List Value) (off j : Nat) (cs : List Value), off + j + vs.length ≤ cs.length →
    (vs.zipIdx j).foldl (fun (a : Array Value) (x : Value × Nat) => a.setIfInBounds (off + x.2) x.1) cs.toArray = (cs.take (off + j) ++ vs ++ cs.drop (off + j + vs.length)).toArray
  | [], off, j, cs, h => by simp
  | v :: r, off, j, cs, h => by
    have hl : off + j < cs.length := by simp at h; omega
    rw [List.zipIdx_cons, List.foldl_cons]
    simp only [List.setIfInBounds_toArray]
    rw [fold_set r off (j + 1) (cs.set (off + j) v) (by simp at h ⊢; omega)]
    congr 1
    have e1 : (cs.set (off + j) v).take (off + (j + 1)) = cs.take (off + j) ++ [v] := by
      rw [show off + (j + 1) = off + j + 1 by omega, List.take_add_one, List.getElem?_set_self hl, List.take_set, List.set_eq_of_length_le (by simp; omega)]; rfl
    have e2 : (cs.set (off + j) v).drop (off + (j + 1) + r.length) = cs.drop (off + j + (v :: r).length) := by
      rw [List.drop_set_of_lt (by omega)]
      congr 1; simp; omega
    rw [e1, e2]; simp
theorem fill_pg (b : Blk) (X : List Value) (hX : X.length = 64) : Instr.fill ([(0, 64), (64, 1), (65, 1)].toArray[·]?) (X ++ [Value.bool false, .int .i64 0]).toArray [(0, .agg b.cs.toArray)] = some (Pg.cs ⟨b, false, 0⟩).toArray := by
  have hf := fold_set b.cs 0 0 (X ++ [Value.bool false, .int .i64 0]) (by simp [hX, b.cs_len])
  have hd : (X ++ [Value.bool false, .int .i64 0]).drop (0 + 0 + b.cs.length) = [Value.bool false, .int .i64 0] := by
    rw [b.cs_len, show 0 + 0 + 64 = X.length by rw [hX]]; simp
  rw [hd] at hf
  simp only [Instr.fill, Value.cells]
  simp [hX, b.cs_len]
  simpa [Pg.cs] using hf
theorem build_pg (b : Blk) (w : World) : (Instr.build 191 #[(0, .agg b.cs.toArray)]).run Tryz.prog w = .ok (.agg (Pg.cs ⟨b, false, 0⟩).toArray) w := by
  refine run_build w _ _ _ ?_
  have h : Tryz.prog.built 191 [(0, .agg b.cs.toArray)] = Instr.fill ([(0, 64), (64, 1), (65, 1)].toArray[·]?) ((List.replicate 64 (Value.int .u8 0)) ++ [Value.bool false, .int .i64 0]).toArray [(0, .agg b.cs.toArray)] := by kernel_rfl
  refine h.trans (fill_pg b _ (by simp))
section
variable {ops : Array Oper} {rest : List Oper} {o : Oper} {a : Act} {w : World} {Q : Exit → Act → World → Prop}
theorem at_newB (hw : Region.wanted o (yielded ops a.tmps) = true) (ho : o.op = .alloc 88)
    (h : ∀ g w', w.heap.size ≤ g → g < w'.heap.size → Cs w' g Blk.zero.cs → Below w.heap.size w w' → wpList Tryz.prog ops Q rest (a.put o.dst (.pointer (some ⟨g, 0, none⟩))) w') : wpList Tryz.prog ops Q (o :: rest) a w :=
  at_alloc hw ho (h w.heap.size _ (Nat.le_refl _) (by simp) (Cs.made _ _ _ Blk.zero.cs_one) ((Below.refl _ _).alloc (Nat.le_refl _) _))
theorem at_getB (hw : Region.wanted o (yielded ops a.tmps) = true) (x : Operand) (ho : o.op = .load 88 x) (g : Nat) (hx : a.eval x = .pointer (some ⟨g, 0, none⟩)) (b : Blk) (hR : w.rangeAt g 0 b.cs)
    (h : wpList Tryz.prog ops Q rest (a.put o.dst (.agg b.cs.toArray)) w) : wpList Tryz.prog ops Q (o :: rest) a w := at_load hw x ho g 0 hx b hR h
theorem at_putB (hw : Region.wanted o (yielded ops a.tmps) = true) (x y : Operand) (ho : o.op = .store 88 x y) (g : Nat) (hx : a.eval x = .pointer (some ⟨g, 0, none⟩)) (b : Blk) (hy : a.eval y = .agg b.cs.toArray) (c : Blk) (hR : Cs w g c.cs)
    (h : ∀ w', Cs w' g b.cs → Stp (fun x => x = g) w w' → wpList Tryz.prog ops Q rest (a.put o.dst undef) w') : wpList Tryz.prog ops Q (o :: rest) a w := by
  refine at_store hw x y ho g 0 hx b hy (by have := hR.there; rwa [c.cs_len] at this) (h _ ?_ (Stp.of_setCells w g 0 b.cs (.inl rfl)))
  have := hR.setCells 0 b.cs (by rw [c.cs_len, b.cs_len]; omega) b.cs_one
  have e : c.cs.take 0 ++ b.cs ++ c.cs.drop (0 + b.cs.length) = b.cs := by
    rw [List.drop_eq_nil_of_le (by rw [c.cs_len, b.cs_len]; omega)]; simp
  rwa [e] at this
theorem at_bldP (hw : Region.wanted o (yielded ops a.tmps) = true) (x : Operand) (ho : o.op = .build 191 #[(0, x)]) (b : Blk) (hx : a.eval x = .agg b.cs.toArray)
    (h : wpList Tryz.prog ops Q rest (a.put o.dst (.agg (Pg.cs ⟨b, false, 0⟩).toArray)) w) : wpList Tryz.prog ops Q (o :: rest) a w := by
  refine wpList_val hw _ _ ?_ h
  simp [execOp, ho, hx, build_pg]
theorem at_boxPC (hw : Region.wanted o (yielded ops a.tmps) = true) (x : Operand) (ho : o.op = .box 191 x) (q : Pg) (hx : a.eval x = .agg q.cs.toArray)
    (h : ∀ g w', w.heap.size ≤ g → g < w'.heap.size → Cs w' g q.cs → Below w.heap.size w w' → wpList Tryz.prog ops Q rest (a.put o.dst (.pointer (some ⟨g, 0, none⟩))) w') : wpList Tryz.prog ops Q (o :: rest) a w :=
  at_boxC _ hw x ho q.cs hx q.cs_one h
theorem at_insP (hw : Region.wanted o (yielded ops a.tmps) = true) (m x y : Operand) (ho : o.op = .mapUpdate 169 m x y) (b : Nat) (f : Int → Option Value) (hm : a.eval m = .map (some b)) (k : Int) (hx : a.eval x = .int .i64 k) (v : Value) (hy : a.eval y = v)
    (hM : MpI Tryz.prog 3 w b f) (hf : ∀ k, (f k).isSome → 0 ≤ k ∧ k < 2048) (hk : (Lit.int .i64 k).wf = true)
    (h : ∀ w', MpI Tryz.prog 3 w' b (upd f k (some v)) → Stp (fun x => x = b) w w' → wpList Tryz.prog ops Q rest (a.put o.dst undef) w') : wpList Tryz.prog ops Q (o :: rest) a w := by
  obtain ⟨w', r1, r2, r3⟩ := hM.store u3 uPgs hf hk v
  refine wpList_unit hw _ ?_ (h w' r2 (turned_stp r3))
  simp [execOp, ho, hm, hx, hy, r1]
end
section
variable {fn : Func} {p u v : Tmp} {tmps : Array Value} {w : World} {g : Nat} {x : Value} {b : Blk}
theorem retBt (h : fn.results = #[.cell p 88, .tmp u]) (hp : tmps.getD p undef = .pointer (some ⟨g, 0, none⟩)) (hu : tmps.getD u undef = x) (hR : Cs w g b.cs) : (results fn tmps).run Tryz.prog w = .ok (.tuple #[.agg b.cs.toArray, x]) w := by
  have hp' : tmps[p]?.getD undef = .pointer (some ⟨g, 0, none⟩) := by simpa using hp
  have hu' : tmps[u]?.getD undef = x := by simpa using hu
  have := load36 (Cs.range hR)
  simp [results, h, hp', hu', asAddr, this]
end
section
variable {w w' : World} {gc g mp n : Nat} {ov : Value} {h m : Int} {lp : Int → Option Pg} {lo : List Int} {f : Int → Option Value} {E : Nat → Prop}
theorem Cm.slice (H : Cm w gc g mp ov n h m lp lo f E) : ∃ a c, ov = .slice a lo.length c := by
  rcases H.ow.row with ⟨e1, e2⟩ | ⟨r, cap, cur, e1, _⟩
  · exact ⟨none, 0, by rw [e2]; exact e1⟩
  · exact ⟨_, cap, e1⟩
end
theorem fnd_rmv_fun {l : El} (hn : (keys l).Nodup) (i : Int) : fndC (rmv l i) = fun x => if x = i then none else fndC l x := by
  funext x; exact fnd_rmv hn x
theorem Cx.gone {w w1 w2 : World} {gc g mp : Nat} {sp ov ov' : Value} {Z : CZ} {f : Int → Option Value} {E F G : Nat → Prop} (H : Cx w gc g sp Z mp ov f E F G) (hn : (keys Z.l).Nodup) {i : Int} (t1 : Stp (fun x => x = mp) w w1) (m1 : MpI Tryz.prog 3 w1 mp (upd f i none))
    (k : Stp (fun x => ov.ownBlock = some x) w1 w2) (ho : OwV w2 ov' ((keys Z.l).erase i)) (hb : ov'.ownBlock = ov.ownBlock) :
    ∃ E', Cx (w2.setCell ⟨gc, 3, none⟩ ov') gc g sp (Z.less i) mp ov' (upd f i none) E' F G ∧ Stp E w (w2.setCell ⟨gc, 3, none⟩ ov') ∧ Grew E E' w (w2.setCell ⟨gc, 3, none⟩ ov') := by
  have h1 := H.cm.gone t1 m1
  have h2 := h1.order k ho (fun r hr => .inl (by rw [← hb]; exact hr))
  have s3 : Stp (fun x => x = gc) w2 (w2.setCell ⟨gc, 3, none⟩ ov') := (Stp.refl (fun x => x = gc) w2).setCell (p := ⟨gc, 3, none⟩) (.inl rfl) _
  have s : Stp E w (w2.setCell ⟨gc, 3, none⟩ ov') := ((t1.mono (fun x e => .inl (e ▸ H.cm.em))).next k (fun x e => .inl (H.cm.eo x e).1)).next s3 (fun x e => .inl (e ▸ H.cm.eg))
  have hg : Grew E (fun x => E x ∨ ov'.ownBlock = some x) w (w2.setCell ⟨gc, 3, none⟩ ov') := fun x hx => by
    rcases hx with hx | hx
    · exact .inl hx
    · exact .inl (H.cm.eo x (by rw [← hb]; exact hx)).1
  refine ⟨_, H.own s rfl rfl ?_ hg, s, hg⟩
  show Cm _ gc g mp ov' Z.n Z.h Z.m (fndC (rmv Z.l i)) (keys (rmv Z.l i)) (upd f i none) _
  rw [fnd_rmv_fun hn, keys_rmv]
  exact h2
theorem Al.left {E F G : Nat → Prop} {w w' : World} (h : Stp E w w') : Stp (Al E F G) w w' := h.mono (fun x e => .inl (.inl e))
set_option maxRecDepth 100000 in
set_option maxHeartbeats 2000000 in
theorem room_any {w : World} {gc g mp : Nat} {sp ov : Value} {Z : CZ} {f : Int → Option Value} {E F G : Nat → Prop} {t : Nat} (H : Cx w gc g sp Z mp ov f E F G) (ok : Z.ok t) (ht : t ≤ 10000) :
    Calls Tryz.prog 138 #[.pointer (some ⟨gc, 0, none⟩)] w fun e w' => e = .returned (.int .i64 Z.roomE) ∧ ∃ ov' f' E' F', Cx w' gc g sp Z.room mp ov' f' E' F' G ∧ Stp (Al E F G) w w' ∧ Grew E E' w w' ∧ Grew F F' w w' := by
  obtain ⟨y0, y1, y2, y3, y4, y5⟩ := H.cm.cells
  obtain ⟨a0, c0, hov⟩ := H.cm.slice
  rw [keys_len] at hov
  subst hov
  have hS : ∀ u, Below w.heap.size w u → (u.cell? ⟨gc, 1, none⟩ = some (.int .i64 Z.n) ∧ u.cell? ⟨gc, 3, none⟩ = some (.slice a0 Z.l.length c0)) := fun u hu =>
    ⟨(Stp.of_below hu (fun _ => False)).cell y1 id, (Stp.of_below hu (fun _ => False)).cell y3 id⟩
  by_cases hl : Z.l.length < Z.n
  · have e1 : Z.roomE = 0 := by unfold CZ.roomE; rw [if_pos hl]
    have e2 : Z.room = Z := by unfold CZ.room; rw [if_pos hl]
    rw [e1, e2]; clear e1 e2
    have hl' : (Z.l.length : Int) < (Z.n : Int) := by omega
    go_enter Tryz.func138, Tryz.ntmps138
    go_wp2
    refine wp_region_held_drew (S := fun u => u.cell? ⟨gc, 1, none⟩ = some (.int .i64 Z.n) ∧ u.cell? ⟨gc, 3, none⟩ = some (.slice a0 Z.l.length c0)) (by kernel_rfl) (hS _ (Below.refl _ _).drew) (fun hHeld => ?_)
    refine tl 0 (.pointer (some ⟨gc, 0, none⟩)) rfl ?_
    try simp only [z]
    refine tl 1 (.pointer (some ⟨gc, 0, none⟩)) rfl ?_
    try simp only [z]
    refine tl 2 (.pointer (some ⟨gc, 3, none⟩)) rfl ?_
    try simp only [z]
    refine tl 3 (.slice a0 Z.l.length c0) rfl ?_ (fun u hu => by have x1 := hu.2; go_simp)
    try simp only [z]
    refine tl 4 (.int .i64 (Z.l.length : Int)) rfl ?_
    try simp only [z]
    refine tl 5 (.pointer (some ⟨gc, 0, none⟩)) rfl ?_
    try simp only [z]
    refine tl 6 (.pointer (some ⟨gc, 0, none⟩)) rfl ?_
    try simp only [z]
    refine tl 7 (.pointer (some ⟨gc, 1, none⟩)) rfl ?_
    try simp only [z]
    refine tl 8 (.int .i64 (Z.n : Int)) rfl ?_ (fun u hu => by have x1 := hu.1; go_simp)
    try simp only [z]
    refine tl 9 (.bool true) rfl ?_
    try simp only [z]
    refine wpAnyH_done (by kernel_rfl) ?_ _
    go_wp2
    go_returns
    exact ⟨rfl, _, f, E, F, H.later (by go_grown), Stp.of_below (by go_grown) _, Grew.refl _ _ _, Grew.refl _ _ _⟩
  · have hl' : ¬ ((Z.l.length : Int) < (Z.n : Int)) := by omega
    have hne : keys Z.l ≠ [] := fun e => by have : Z.l.length = 0 := by rw [← keys_len, e]; rfl
                                            have := ok.n1; omega
    have hwf : ∀ e ∈ Z.l, (Lit.int .i64 e.1).wf = true := fun e he => wf_inn H.dd.d.ok.n2 (ok.inn e he)
    have ho := oldN_vic Z.l.length Z.l rfl
    have hO := fun u (hu : Below w.heap.size w u) => oldest_any (H.later hu).cm ok.nd hwf (by have := ok.len; have := ok.n2; omega)
    cases hv : vic Z.l with
    | none =>
      have e1 : Z.roomE = 4 := by unfold CZ.roomE; rw [if_neg hl, hv]
      have e2 : Z.room = Z := by unfold CZ.room; rw [if_neg hl, hv]
      rw [hv] at ho
      have ho : oldN Z.l Z.l.length = -1 := ho
      rw [e1, e2]; clear e1 e2
      rw [ho] at hO
      go_enter Tryz.func138, Tryz.ntmps138
      go_wp2
      refine wp_region_held_drew (S := fun u => u.cell? ⟨gc, 1, none⟩ = some (.int .i64 Z.n) ∧ u.cell? ⟨gc, 3, none⟩ = some (.slice a0 Z.l.length c0)) (by kernel_rfl) (hS _ (Below.refl _ _).drew) (fun hHeld => ?_)
      refine tl 0 (.pointer (some ⟨gc, 0, none⟩)) rfl ?_
      try simp only [z]
      refine tl 1 (.pointer (some ⟨gc, 0, none⟩)) rfl ?_
      try simp only [z]
      refine tl 2 (.pointer (some ⟨gc, 3, none⟩)) rfl ?_
      try simp only [z]
      refine tl 3 (.slice a0 Z.l.length c0) rfl ?_ (fun u hu => by have x1 := hu.2; go_simp)
      try simp only [z]
      refine tl 4 (.int .i64 (Z.l.length : Int)) rfl ?_
      try simp only [z]
      refine tl 5 (.pointer (some ⟨gc, 0, none⟩)) rfl ?_
      try simp only [z]
      refine tl 6 (.pointer (some ⟨gc, 0, none⟩)) rfl ?_
      try simp only [z]
      refine tl 7 (.pointer (some ⟨gc, 1, none⟩)) rfl ?_
      try simp only [z]
      refine tl 8 (.int .i64 (Z.n : Int)) rfl ?_ (fun u hu => by have x1 := hu.1; go_simp)
      try simp only [z]
      refine tl 9 (.bool false) rfl ?_
      try simp only [z]
      refine wpAnyH_done (by kernel_rfl) ?_ _
      go_wp2_with (go_at_call 150; refine (hO _ (Below.refl _ _).drew).mono ?_; rintro e w1 ⟨rfl, b1⟩)
      go_returns
      have B1 : Below w.heap.size w w1 := bnext (Below.refl w.heap.size w).drew b1 (Nat.le_refl _)
      exact ⟨rfl, _, f, E, F, H.later B1, Stp.of_below B1 _, Grew.refl _ _ _, Grew.refl _ _ _⟩
    | some e =>
      rw [hv] at ho
      obtain ⟨k, hk, ho1, hke⟩ := ho
      rw [ho1] at hO
      have he := (vic_mem hv).1
      have hke' : (keys Z.l).getD k 0 = e.1 := by unfold keys; rw [List.getD_eq_getElem?_getD, List.getElem?_map, hke]; rfl
      have her := erase_at (keys Z.l) k ok.nd (by rw [keys_len]; exact hk)
      rw [hke'] at her
      have hwe := hwf e he
      obtain ⟨g0, cap, cur, e5, hw⟩ := H.cm.ow.row1 hne
      injection e5 with e5 e6 e7
      subst e5; subst e7; clear e6
      have a1 : (0 : Int) ≤ (k : Int) := by omega
      have a2 : (k : Int) < (Z.l.length : Int) := by omega
      have a3 : IntKind.i64.wrap ((k : Int) + 1) = (k : Int) + 1 := by rw [IntKind.wrap_i64]; have := ok.len; have := ok.n2; omega
      have e1 : Z.roomE = Z.backE e.1 := by unfold CZ.roomE; rw [if_neg hl, hv]
      rw [e1]; clear e1
      have ck := hw.cell k (by rw [keys_len]; exact hk)
      rw [hke'] at ck
      by_cases hbE : Z.backE e.1 = 0
      · have e2 : Z.room = (Z.back e.1).less e.1 := by unfold CZ.room; rw [if_neg hl, hv]; simp only [hbE, if_true]
        have hE2 : Hid (Z.room = (Z.back e.1).less e.1) := e2
        have hEB : Hid (Z.backE e.1 = 0) := hbE
        have hBk := fun u (hu : Below w.heap.size w u) => back_anyC (H.later hu) ok ht e.1 hwe
        rw [hbE] at hBk; clear e2 hbE
        go_enter Tryz.func138, Tryz.ntmps138
        go_wp2
        refine wp_region_held_drew (S := fun u => u.cell? ⟨gc, 1, none⟩ = some (.int .i64 Z.n) ∧ u.cell? ⟨gc, 3, none⟩ = some (.slice (some ⟨g0, 0, none⟩) Z.l.length c0)) (by kernel_rfl) (hS _ (Below.refl _ _).drew) (fun hHeld => ?_)
        refine tl 0 (.pointer (some ⟨gc, 0, none⟩)) rfl ?_
        try simp only [z]
        refine tl 1 (.pointer (some ⟨gc, 0, none⟩)) rfl ?_
        try simp only [z]
        refine tl 2 (.pointer (some ⟨gc, 3, none⟩)) rfl ?_
        try simp only [z]
        refine tl 3 (.slice (some ⟨g0, 0, none⟩) Z.l.length c0) rfl ?_ (fun u hu => by have x1 := hu.2; go_simp)
        try simp only [z]
        refine tl 4 (.int .i64 (Z.l.length : Int)) rfl ?_
        try simp only [z]
        refine tl 5 (.pointer (some ⟨gc, 0, none⟩)) rfl ?_
        try simp only [z]
        refine tl 6 (.pointer (some ⟨gc, 0, none⟩)) rfl ?_
        try simp only [z]
        refine tl 7 (.pointer (some ⟨gc, 1, none⟩)) rfl ?_
        try simp only [z]
        refine tl 8 (.int .i64 (Z.n : Int)) rfl ?_ (fun u hu => by have x1 := hu.1; go_simp)
        try simp only [z]
        refine tl 9 (.bool false) rfl ?_
        try simp only [z]
        refine wpAnyH_done (by kernel_rfl) ?_ _
        clear hHeld hS
        go_wp2_with (first
          | (go_at_call 150; refine (hO _ (Below.refl _ _).drew).mono ?_; rintro e w1 ⟨rfl, b1⟩
             have B1 : Below w.heap.size w w1 := bnext (Below.refl w.heap.size w).drew b1 (Nat.le_refl _)
             have z3 := (Stp.of_below B1 (fun _ => False)).cell y3 id
             have zk := (Stp.of_below B1 (fun _ => False)).cell ck id
             clear hO b1)
          | (go_at_call 151; refine (hBk _ B1).mono ?_; rintro e w2 ⟨rfl, F', H2, s2, g2⟩
             have q2 := H2.cm.c.cell 2 _ rfl
             clear hBk)
          | (refine at_drop (t := 169) (by rfl) _ _ (by rfl) (by rfl) (by rfl) (fun ty => H2.cm.mm.drop u3 uPgs hwe ty) ?_; rintro w3 ⟨m3, t3⟩
             have h3 := H2.cm.gone (turned_stp t3) m3
             have q3 := h3.c.cell 3 _ rfl
             have o3 := h3.ow
             rw [back_keys] at o3)
          | (go_at_call 119; refine (delete_own o3 k (by rw [keys_len]; exact hk)).mono ?_; rintro e w4 ⟨ov', rfl, o4, b4, s4⟩
             rw [her] at o4
             have h4 := h3.c.step s4 (fun e => (h3.eo gc e).2 rfl)
             have q4 := h4.cell 3 _ rfl
             have f4 := h4.frozen 3
             obtain ⟨a5, n5, c5, rfl⟩ := o4.shape))
        go_returns
        have hn2 : (keys (Z.back e.1).l).Nodup := by rw [back_keys]; exact ok.nd
        obtain ⟨E', H5, s5, g5⟩ := H2.gone hn2 (turned_stp t3) m3 s4 (by rw [back_keys]; exact o4) b4
        have S2 : Stp (Al E F G) w w2 := (Stp.of_below B1 (Al E F G)).trans s2
        refine ⟨by rw [hEB.out]; rfl, _, _, E', F', by rw [hE2.out]; exact H5, S2.next s5 (fun x e => .inl (.inl e)), fun x hx => ?_, Grew.trans (b := w2) (fun x hx => ?_) (Grew.refl _ _ _) S2.size s5.size⟩
        · rcases g5 x hx with e | e
          · exact .inl e
          · exact .inr ⟨Nat.le_trans S2.size e.1, e.2⟩
        · rcases g2 x hx with e | e
          · exact .inl e
          · exact .inr ⟨Nat.le_trans B1.size e.1, e.2⟩
      · have e2 : Z.room = Z.back e.1 := by unfold CZ.room; rw [if_neg hl, hv]; simp only [hbE, if_false]
        have hE2 : Hid (Z.room = Z.back e.1) := e2
        have hBk := fun u (hu : Below w.heap.size w u) => back_anyC (H.later hu) ok ht e.1 hwe
        clear e2
        go_enter Tryz.func138, Tryz.ntmps138
        go_wp2
        refine wp_region_held_drew (S := fun u => u.cell? ⟨gc, 1, none⟩ = some (.int .i64 Z.n) ∧ u.cell? ⟨gc, 3, none⟩ = some (.slice (some ⟨g0, 0, none⟩) Z.l.length c0)) (by kernel_rfl) (hS _ (Below.refl _ _).drew) (fun hHeld => ?_)
        refine tl 0 (.pointer (some ⟨gc, 0, none⟩)) rfl ?_
        try simp only [z]
        refine tl 1 (.pointer (some ⟨gc, 0, none⟩)) rfl ?_
        try simp only [z]
        refine tl 2 (.pointer (some ⟨gc, 3, none⟩)) rfl ?_
        try simp only [z]
        refine tl 3 (.slice (some ⟨g0, 0, none⟩) Z.l.length c0) rfl ?_ (fun u hu => by have x1 := hu.2; go_simp)
        try simp only [z]
        refine tl 4 (.int .i64 (Z.l.length : Int)) rfl ?_
        try simp only [z]
        refine tl 5 (.pointer (some ⟨gc, 0, none⟩)) rfl ?_
        try simp only [z]
        refine tl 6 (.pointer (some ⟨gc, 0, none⟩)) rfl ?_
        try simp only [z]
        refine tl 7 (.pointer (some ⟨gc, 1, none⟩)) rfl ?_
        try simp only [z]
        refine tl 8 (.int .i64 (Z.n : Int)) rfl ?_ (fun u hu => by have x1 := hu.1; go_simp)
        try simp only [z]
        refine tl 9 (.bool false) rfl ?_
        try simp only [z]
        refine wpAnyH_done (by kernel_rfl) ?_ _
        clear hHeld hS
        go_wp2_with (first
          | (go_at_call 150; refine (hO _ (Below.refl _ _).drew).mono ?_; rintro e w1 ⟨rfl, b1⟩
             have B1 : Below w.heap.size w w1 := bnext (Below.refl w.heap.size w).drew b1 (Nat.le_refl _)
             have z3 := (Stp.of_below B1 (fun _ => False)).cell y3 id
             have zk := (Stp.of_below B1 (fun _ => False)).cell ck id
             clear hO b1)
          | (go_at_call 151; refine (hBk _ B1).mono ?_; rintro e w2 ⟨rfl, F', H2, s2, g2⟩
             clear hBk))
        go_returns
        have S2 : Stp (Al E F G) w w2 := (Stp.of_below B1 (Al E F G)).trans s2
        refine ⟨rfl, _, f, E, F', by rw [hE2.out]; exact H2, S2, Grew.refl _ _ _, fun x hx => ?_⟩
        rcases g2 x hx with e | e
        · exact .inl e
        · exact .inr ⟨Nat.le_trans B1.size e.1, e.2⟩
theorem fnd_cons_fun (i : Int) (q : Pg) (l : El) : fndC ((i, q) :: l) = fun x => if x = i then some q else fndC l x := by
  funext x
  conv => lhs; unfold fndC
  by_cases h : x = i
  · simp [h]
  · simp [h, Ne.symm h]
theorem fnd_front {l : El} {i : Int} {q : Pg} (hn : (keys l).Nodup) (hq : fndC l i = some q) : fndC ((i, q) :: rmv l i) = fndC l := by
  rw [fnd_cons_fun]
  funext x
  by_cases h : x = i
  · simp [h, hq]
  · simp only [h, if_false, fnd_rmv hn]
section
variable {w : World} {gc g mp : Nat} {sp ov : Value} {Z : CZ} {f : Int → Option Value} {E F G : Nat → Prop}
theorem Cx.few (H : Cx w gc g sp Z mp ov f E F G) {t : Nat} (ok : Z.ok t) : ∀ k, (f k).isSome → 0 ≤ k ∧ k < 2048 := fun k hk => by
  cases hl : fndC Z.l k with
  | none => rw [H.cm.no k hl] at hk; cases hk
  | some q =>
    have := ok.inn _ (fnd_memC hl)
    unfold DS.inn at this
    have := H.dd.d.ok.n2
    simp only at *
    omega
theorem Cx.hit {w2 w3 : World} {ov1 ov2 : Value} {i : Int} {q : Pg} (H : Cx w gc g sp Z mp ov f E F G) (hn : (keys Z.l).Nodup) (hq : fndC Z.l i = some q) (h' : Int) (hh : h' = wrap64 (Z.h + 1))
    (s2 : Stp (fun x => ov.ownBlock = some x) (w.setCell ⟨gc, 4, none⟩ (.int .i64 h')) w2) (b1 : ov1.ownBlock = ov.ownBlock)
    (s3 : Stp (fun x => ov1.ownBlock = some x) (w2.alloc (.cells #[.int .i64 i] 3)) w3) (o3 : OwV w3 ov2 (i :: (keys Z.l).erase i)) (b2 : ∀ r, ov2.ownBlock = some r → ov1.ownBlock = some r ∨ ((w2.alloc (.cells #[.int .i64 i] 3)).heap.size ≤ r ∧ r < w3.heap.size)) :
    ∃ E', Cx (w3.setCell ⟨gc, 3, none⟩ ov2) gc g sp (Z.hit i q) mp ov2 f E' F G ∧ Stp E w (w3.setCell ⟨gc, 3, none⟩ ov2) ∧ Grew E E' w (w3.setCell ⟨gc, 3, none⟩ ov2) := by
  subst hh
  have h1 := H.cm.hit (wrap64 (Z.h + 1))
  have s1 : Stp (fun x => x = gc) w (w.setCell ⟨gc, 4, none⟩ (.int .i64 (wrap64 (Z.h + 1)))) := (Stp.refl (fun x => x = gc) w).setCell (p := ⟨gc, 4, none⟩) (.inl rfl) _
  have sA : Stp (fun x => ov.ownBlock = some x) (w.setCell ⟨gc, 4, none⟩ (.int .i64 (wrap64 (Z.h + 1)))) w3 := (s2.alloc _).next s3 (fun x e => .inl (by rw [← b1]; exact e))
  have h3 := h1.order sA o3 (fun r hr => by
    rcases b2 r hr with e | e
    · exact .inl (by rw [← b1]; exact e)
    · exact .inr ⟨Nat.le_trans (s2.alloc (.cells #[.int .i64 i] 3)).size e.1, e.2⟩)
  have s4 : Stp (fun x => x = gc) w3 (w3.setCell ⟨gc, 3, none⟩ ov2) := (Stp.refl (fun x => x = gc) w3).setCell (p := ⟨gc, 3, none⟩) (.inl rfl) _
  have s : Stp E w (w3.setCell ⟨gc, 3, none⟩ ov2) := ((s1.mono (fun x e => .inl (e ▸ H.cm.eg))).next sA (fun x e => .inl (H.cm.eo x e).1)).next s4 (fun x e => .inl (e ▸ H.cm.eg))
  have hg : Grew E (fun x => E x ∨ ov2.ownBlock = some x) w (w3.setCell ⟨gc, 3, none⟩ ov2) := fun x hx => by
    rcases hx with hx | hx
    · exact .inl hx
    · rcases b2 x hx with e | e
      · exact .inl (H.cm.eo x (by rw [← b1]; exact e)).1
      · exact .inr ⟨Nat.le_trans s1.size (Nat.le_trans (s2.alloc (.cells #[.int .i64 i] 3)).size e.1), Nat.lt_of_lt_of_le e.2 s4.size⟩
  refine ⟨_, H.own s rfl rfl ?_ hg, s, hg⟩
  show Cm _ gc g mp ov2 Z.n (wrap64 (Z.h + 1)) Z.m (fndC ((i, q) :: rmv Z.l i)) (keys ((i, q) :: rmv Z.l i)) f _
  rw [fnd_front hn hq, keys_cons, keys_rmv]
  exact h3
theorem Cx.miss {w6 w7 w8 : World} {ov2 : Value} {i : Int} {b : Blk} {r : Nat} (H : Cx w gc g sp Z mp ov f E F G) (hq : fndC Z.l i = none) (m' : Int) (hm : m' = wrap64 (Z.m + 1))
    (b6 : Below (w.setCell ⟨gc, 5, none⟩ (.int .i64 m')).heap.size (w.setCell ⟨gc, 5, none⟩ (.int .i64 m')) w6) (hr : (w.setCell ⟨gc, 5, none⟩ (.int .i64 m')).heap.size ≤ r) (c6 : Cs w6 r (Pg.cs ⟨b, false, 0⟩))
    (s7 : Stp (fun x => x = mp) w6 w7) (m7 : MpI Tryz.prog 3 w7 mp (upd f i (some (.pointer (some ⟨r, 0, none⟩)))))
    (s8 : Stp (fun x => ov.ownBlock = some x) (w7.alloc (.cells #[.int .i64 i] 3)) w8) (o8 : OwV w8 ov2 (i :: keys Z.l)) (b8 : ∀ r, ov2.ownBlock = some r → ov.ownBlock = some r ∨ ((w7.alloc (.cells #[.int .i64 i] 3)).heap.size ≤ r ∧ r < w8.heap.size)) :
    ∃ E', Cx (w8.setCell ⟨gc, 3, none⟩ ov2) gc g sp (Z.miss i b) mp ov2 (upd f i (some (.pointer (some ⟨r, 0, none⟩)))) E' F G ∧ Stp E w (w8.setCell ⟨gc, 3, none⟩ ov2) ∧ Grew E E' w (w8.setCell ⟨gc, 3, none⟩ ov2) := by
  subst hm
  have h1 := H.cm.missed (wrap64 (Z.m + 1))
  have s1 : Stp (fun x => x = gc) w (w.setCell ⟨gc, 5, none⟩ (.int .i64 (wrap64 (Z.m + 1)))) := (Stp.refl (fun x => x = gc) w).setCell (p := ⟨gc, 5, none⟩) (.inl rfl) _
  have h6 := h1.step (Stp.of_below b6 (fun _ => False)) (fun _ _ => id)
  have hEr : ¬ E r := fun e => by have := H.cm.lt r e; have := s1.size; omega
  have h7 := h6.more hq c6 hEr s7 m7
  have h8 := h7.order ((Stp.of_alloc w7 (.cells #[.int .i64 i] 3) _).trans s8) o8 (fun x hx => by
    rcases b8 x hx with e | e
    · exact .inl e
    · exact .inr ⟨Nat.le_trans (Stp.of_alloc w7 (.cells #[.int .i64 i] 3) (fun _ => False)).size e.1, e.2⟩)
  have s9 : Stp (fun x => x = gc) w8 (w8.setCell ⟨gc, 3, none⟩ ov2) := (Stp.refl (fun x => x = gc) w8).setCell (p := ⟨gc, 3, none⟩) (.inl rfl) _
  have sA : Stp E w w6 := (s1.mono (fun x e => .inl (e ▸ H.cm.eg))).trans (Stp.of_below b6 E)
  have sB : Stp E w w7 := sA.next s7 (fun x e => .inl (e ▸ H.cm.em))
  have sC : Stp E w w8 := (sB.alloc (.cells #[.int .i64 i] 3)).next s8 (fun x e => .inl (H.cm.eo x e).1)
  have s : Stp E w (w8.setCell ⟨gc, 3, none⟩ ov2) := sC.next s9 (fun x e => .inl (e ▸ H.cm.eg))
  have hg : Grew E (fun x => (E x ∨ x = r) ∨ ov2.ownBlock = some x) w (w8.setCell ⟨gc, 3, none⟩ ov2) := fun x hx => by
    rcases hx with (hx | hx) | hx
    · exact .inl hx
    · subst hx
      have := c6.lt
      have := s7.size
      have := (Stp.of_alloc w7 (.cells #[.int .i64 i] 3) (fun _ => False)).size
      have := s8.size
      have := s9.size
      have := s1.size
      exact .inr ⟨by omega, by omega⟩
    · rcases b8 x hx with e | e
      · exact .inl (H.cm.eo x e).1
      · have := (Stp.of_alloc w7 (.cells #[.int .i64 i] 3) (fun _ => False)).size
        have := sB.size
        have := s9.size
        exact .inr ⟨by omega, by omega⟩
  refine ⟨_, H.own s rfl rfl ?_ hg, s, hg⟩
  show Cm _ gc g mp ov2 Z.n Z.h (wrap64 (Z.m + 1)) (fndC ((i, _) :: Z.l)) (keys ((i, _) :: Z.l)) _ _
  rw [fnd_cons_fun, keys_cons]
  exact h8
end
def hp (e : Int) (v : Option Value) : Value := if e = 0 then v.getD (.pointer none) else .pointer none
theorem hp0 (v : Option Value) : hp 0 v = v.getD (.pointer none) := if_pos rfl
theorem hpn {e : Int} (h : e ≠ 0) (v : Option Value) : hp e v = .pointer none := if_neg h
set_option maxRecDepth 100000 in
set_option maxHeartbeats 2000000 in
theorem bring_any {w : World} {gc g mp : Nat} {sp ov : Value} {Z : CZ} {f : Int → Option Value} {E F G : Nat → Prop} {t : Nat} (H : Cx w gc g sp Z mp ov f E F G) (ok : Z.ok t) (ht : t ≤ 10000) (i : Int) (hwi : (Lit.int .i64 i).wf = true) (hn : fndC Z.l i = none) :
    Calls Tryz.prog 116 #[.pointer (some ⟨gc, 0, none⟩), .int .i64 i] w fun e w' => ∃ ov' f' E' F', e = .returned (.tuple #[hp (Z.holdE i) (f' i), .int .i64 (Z.holdE i)]) ∧ Cx w' gc g sp (Z.hold i) mp ov' f' E' F' G ∧ Stp (Al E F G) w w' ∧ Grew E E' w w' ∧ Grew F F' w w' := by
  obtain ⟨y0, y1, y2, y3, y4, y5⟩ := H.cm.cells
  have hR := read_anyD H.dd.d i hwi
  by_cases hi : Z.d.inn i
  · have e0 : checkErr Z.d i = 0 := if_pos hi
    rw [e0] at hR; clear e0
    have e1 : Z.holdE i = Z.roomE := by unfold CZ.holdE; rw [if_pos hi, hn]
    rw [e1]; clear e1
    have hRm := fun u (hu : Below w.heap.size w u) => room_any (H.later hu) ok ht
    have far : ∀ x, w.heap.size ≤ x → ¬ Al E F G x := fun x hx e => by
      rcases e with e | e | e
      · have := H.cm.lt x e; omega
      · have := H.dd.d.lt x e; omega
      · have := H.dd.gl x e; omega
    by_cases hE : Z.roomE = 0
    · have e2 : Z.hold i = Z.room.miss i (Z.d.shown i) := by unfold CZ.hold; rw [if_pos hi, hn]; simp only [hE, if_true]
      have hE2 : Hid (Z.hold i = Z.room.miss i (Z.d.shown i)) := e2
      have hHE : Hid (Z.roomE = 0) := hE
      rw [hE] at hRm; clear e2 hE
      have hnr : fndC Z.room.l i = none := fnd_none_iff.2 fun hk => fnd_none_iff.1 hn (room_keys Z hk)
      have okr := ok.room
      have hkl : (keys Z.room.l).length ≤ 1000000 := by rw [keys_len]; have := okr.len; have := okr.n2; omega
      go_enter Tryz.func116, Tryz.ntmps116
      go_wp2_with (first
        | (go_at_call 81; refine hR.mono ?_; rintro e w1 ⟨rfl, b1⟩; clear hR)
        | (refine at_newB (by rfl) (by rfl) ?_; intro gb w2 a2 l2 r2 b2)
        | (refine at_putB (by rfl) _ _ (by rfl) gb (by rfl) (Z.d.shown i) (by rfl) _ r2 ?_; intro w3 r3 s3
           have hgb : w.heap.size ≤ gb := Nat.le_trans b1.size a2
           have B3 : Below w.heap.size w w3 := ((Stp.of_below (bnext b1 b2 (Nat.le_refl _)) (fun x => w.heap.size ≤ x)).next s3 (fun x e => .inl (e ▸ hgb))).below (Nat.le_refl _) (fun _ h => h)
           clear r2 b2 b1 s3)
        | (go_at_call 138; refine (hRm _ B3).mono ?_; rintro e w4 ⟨rfl, ov4, f4, E4, F4, H4, s4, gE4, gF4⟩
           have z5 := H4.cm.c.cell 5 _ rfl
           have v5 := H4.cm.c.frozen 5
           have r4 : Cs w4 gb (Z.d.shown i).cs := r3.step s4 (far gb hgb)
           have hsi : gb < w4.heap.size := r4.lt
           clear hRm r3 y0 y1 y2 y3 y4 y5)
        | (refine at_getB (by rfl) _ (by rfl) gb (by rfl) (Z.d.shown i) (Cs.step r4 ((Stp.refl (fun x => x = gc) w4).setCell (p := ⟨gc, 5, none⟩) (.inl rfl) (.int .i64 (wrap64 (Z.room.m + 1)))) (fun e => far gb hgb (.inl (e ▸ H.cm.eg)))).range ?_)
        | (refine at_bldP (by rfl) _ (by rfl) (Z.d.shown i) (by rfl) ?_)
        | (refine at_boxPC (by rfl) _ (by rfl) ⟨Z.d.shown i, false, 0⟩ (by rfl) ?_; intro gp w6 a6 l6 r6 b6
           have h6 := (H4.cm.missed (wrap64 (Z.room.m + 1))).step (Stp.of_below b6 (fun _ => False)) (fun _ _ => id)
           have sz : w4.heap.size ≤ gp := Nat.le_trans ((Stp.refl (fun x => x = gc) w4).setCell (p := ⟨gc, 5, none⟩) (.inl rfl) (.int .i64 (wrap64 (Z.room.m + 1)))).size a6
           have z6 := h6.c.cell 2 _ rfl)
        | (refine at_insP (by rfl) _ _ _ (by rfl) mp f4 (by rfl) i (by rfl) (.pointer (some ⟨gp, 0, none⟩)) (by rfl) h6.mm (H4.few okr) hwi ?_; intro w7 m7 s7
           have h7 := h6.more hnr r6 (fun e => by have := H4.cm.lt gp e; omega) s7 m7
           have z7 := h7.c.cell 3 _ rfl
           have h8 := h7.step (Stp.of_alloc w7 (.cells #[.int .i64 i] 3) (fun _ => False)) (fun _ _ => id)
           obtain ⟨a9, n9, c9, hov9⟩ := h7.ow.shape
           subst hov9)
        | (go_at_call 118; refine (insert_own h8.ow i w7.heap.size (heap_alloc_new w7 _) (fun e => by have := h7.lt _ (h7.eo _ e).1; omega) hkl).mono ?_; rintro e w9 ⟨ov9, rfl, o9, b9, s9⟩
           have h10 := h8.c.step s9 (fun e => (h8.eo gc e).2 rfl)
           have z9 := h10.cell 3 _ rfl
           have v9 := h10.frozen 3
           obtain ⟨a10, n10, c10, hov10⟩ := o9.shape
           subst hov10))
      go_returns
      obtain ⟨E', H11, s11, g11⟩ := H4.miss hnr _ rfl b6 a6 r6 s7 m7 s9 o9 b9
      have S4 : Stp (Al E F G) w w4 := (Stp.of_below B3 (Al E F G)).trans s4
      have gE : Grew E E4 w w4 := fun x hx => by
        rcases gE4 x hx with e | e
        · exact .inl e
        · exact .inr ⟨Nat.le_trans B3.size e.1, e.2⟩
      have gF : Grew F F4 w w4 := fun x hx => by
        rcases gF4 x hx with e | e
        · exact .inl e
        · exact .inr ⟨Nat.le_trans B3.size e.1, e.2⟩
      refine ⟨_, _, E', F4, ?_, by rw [hE2.out]; exact H11, S4.next s11 (fun x e => ?_), Grew.trans gE g11 S4.size s11.size, Grew.trans gF (Grew.refl _ _ _) S4.size s11.size⟩
      · rw [hHE.out, hp0]; simp [upd]
      · rcases gE x e with e | e
        · exact .inl (.inl e)
        · exact .inr e.1
    · have e2 : Z.hold i = Z.room := by unfold CZ.hold; rw [if_pos hi, hn]; simp only [hE, if_false]
      have hE2 : Hid (Z.hold i = Z.room) := e2
      clear e2
      go_enter Tryz.func116, Tryz.ntmps116
      go_wp2_with (first
        | (go_at_call 81; refine hR.mono ?_; rintro e w1 ⟨rfl, b1⟩; clear hR)
        | (refine at_newB (by rfl) (by rfl) ?_; intro gb w2 a2 l2 r2 b2)
        | (refine at_putB (by rfl) _ _ (by rfl) gb (by rfl) (Z.d.shown i) (by rfl) _ r2 ?_; intro w3 r3 s3
           have hgb : w.heap.size ≤ gb := Nat.le_trans b1.size a2
           have B3 : Below w.heap.size w w3 := ((Stp.of_below (bnext b1 b2 (Nat.le_refl _)) (fun x => w.heap.size ≤ x)).next s3 (fun x e => .inl (e ▸ hgb))).below (Nat.le_refl _) (fun _ h => h)
           clear r2 b2 b1 s3)
        | (go_at_call 138; refine (hRm _ B3).mono ?_; rintro e w4 ⟨rfl, ov4, f4, E4, F4, H4, s4, gE4, gF4⟩))
      go_returns
      refine ⟨ov4, f4, E4, F4, by rw [hpn hE]; rfl, by rw [hE2.out]; exact H4, (Stp.of_below B3 (Al E F G)).trans s4, fun x hx => ?_, fun x hx => ?_⟩
      · rcases gE4 x hx with e | e
        · exact .inl e
        · exact .inr ⟨Nat.le_trans B3.size e.1, e.2⟩
      · rcases gF4 x hx with e | e
        · exact .inl e
        · exact .inr ⟨Nat.le_trans B3.size e.1, e.2⟩
  · have e0 : checkErr Z.d i = 2 := if_neg hi
    rw [e0] at hR; clear e0
    have e1 : Z.holdE i = 2 := by unfold CZ.holdE; rw [if_neg hi]
    have e2 : Z.hold i = Z := by unfold CZ.hold; rw [if_neg hi]
    rw [e1, e2]; clear e1 e2
    go_enter Tryz.func116, Tryz.ntmps116
    go_wp2_with (first
      | (go_at_call 81; refine hR.mono ?_; rintro e w1 ⟨rfl, b1⟩; clear hR)
      | (refine at_newB (by rfl) (by rfl) ?_; intro gb w2 a2 l2 r2 b2)
      | (refine at_putB (by rfl) _ _ (by rfl) gb (by rfl) (Z.d.shown i) (by rfl) _ r2 ?_; intro w3 r3 s3
         have hgb : w.heap.size ≤ gb := Nat.le_trans b1.size a2
         have B3 : Below w.heap.size w w3 := ((Stp.of_below (bnext b1 b2 (Nat.le_refl _)) (fun x => w.heap.size ≤ x)).next s3 (fun x e => .inl (e ▸ hgb))).below (Nat.le_refl _) (fun _ h => h)
         clear r2 b2 b1 s3))
    go_returns
    exact ⟨ov, f, E, F, by rw [hpn (by decide)]; rfl, H.later B3, Stp.of_below B3 _, Grew.refl _ _ _, Grew.refl _ _ _⟩
end Go.Proofs.YtgdnhkdfcjpdiaaGreatDoor
