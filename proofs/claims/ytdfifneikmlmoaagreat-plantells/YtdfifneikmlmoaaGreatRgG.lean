/-
  What readies of the document's graph returns: no statement is proved here.
-/
import Derived.Test.YtdfifneikmlmoaaGreatRgF
import Derived.Deep.CutBlock
namespace Go.Proofs.YtdfifneikmlmoaaGreat
open Go.ChangeShapes Go.WideShapes Go.ChangeAt Go.RowKit
set_option linter.unusedVariables false
set_option linter.unusedSimpArgs false

theorem infoBo : (Tryz.prog.info? 4).map (fun i => (i.zero, i.size, i.bytes)) = some (some (.bool false), 1, 1) := by kernel_rfl
def bV (l : List Bool) : List Value := l.map Value.bool
theorem bV_one (l : List Bool) : ∀ v ∈ bV l, v.oneCell' = true := fun v hv => by
  obtain ⟨x, _, rfl⟩ := List.mem_map.1 hv; rfl
theorem at_mkb {ops : Array Oper} {rest : List Oper} {o : Oper} {a : Act} {w : World} {Q : Exit → Act → World → Prop} (x : Operand) (ho : o.op = .makeSlice 83 x x) (hw : Region.wanted o (yielded ops a.tmps) = true) (n : Nat) (hx : a.eval x = .int .i64 (n : Int)) (hn : n ≤ 100000)
    (h : ∀ g w', w.heap.size ≤ g → g < w'.heap.size → Cs w' g (bV (List.replicate n false)) → Below w.heap.size w w' → wpList Tryz.prog ops Q rest (a.put o.dst (.slice (some ⟨g, 0, none⟩) n n)) w') : wpList Tryz.prog ops Q (o :: rest) a w := by
  obtain ⟨i, hi, hz, hs, hb⟩ := info_parts infoBo
  have hr := run_make (P := Tryz.prog) w 83 4 i _ (by kernel_rfl) hi hz .i64 .i64 n n (by omega) (Int.le_refl _) (by rw [hb]; omega) (by omega)
  simp only [Int.toNat_natCast, hs] at hr
  have e : madeCells (Value.bool false).cells (n * 1) = (bV (List.replicate n false)).toArray := by
    unfold madeCells bV
    apply Array.ext
    · simp
    · intro j h1 h2
      simp [Value.cells, Extern.Stop.cell]
      rw [Nat.mod_one]; rfl
  rw [e] at hr
  refine op_val hw _ _ ?_ (h w.heap.size (w.alloc (.cells (bV (List.replicate n false)).toArray 4)) (Nat.le_refl _) (by simp) (Cs.made _ _ _ (bV_one _)) ((Below.refl _ _).alloc (Nat.le_refl _) _))
  simp only [execOp, ho, hx, Sem.run_bind]
  exact congrArg (fun r => Result.andThen r _) hr
/-- Which are ready, of the first k; of the others: no. -/
def ryB (l : List Pt) (k : Nat) : List Bool := (rb l k).map (·.2) ++ List.replicate (l.length - k) false
theorem ryB_len {l : List Pt} {k : Nat} (h : k ≤ l.length) : (ryB l k).length = l.length := by unfold ryB; simp [rb_len h]; omega
theorem ryB_set {l : List Pt} {k : Nat} {p : Pt} (h : l[k]? = some p) : (ryB l k).set k (rbS l (rb l k) p) = ryB l (k + 1) := by
  have hk : k < l.length := (List.getElem?_eq_some_iff.1 h).1
  unfold ryB
  rw [List.set_append_right _ _ (by simp [rb_len (Nat.le_of_lt hk)]), rb_step h]
  have e1 : k - ((rb l k).map (·.2)).length = 0 := by simp [rb_len (Nat.le_of_lt hk)]
  have e2 : l.length - k = (l.length - (k + 1)) + 1 := by omega
  rw [e1, e2, List.replicate_succ, List.set_cons_zero]
  simp
theorem ryB_get {l : List Pt} {i k : Nat} {p : Pt} (h : l[i]? = some p) (hi : i < k) (hk : k ≤ l.length) : (ryB l k)[i]? = some (rbS l (rb l i) p) := by
  unfold ryB
  rw [List.getElem?_append_left (by simp [rb_len hk]; exact hi), List.getElem?_map, rb_get h hi hk]; rfl
/-- Whether p would be ready if i of those ahead of it were all. -/
def rbI (l : List Pt) (k i : Nat) (p : Pt) : Bool := !p.wr && !held l p && ((rb l k).take i).all fun t => t.1.wr || !meet t.1 p || t.2
theorem rbI_all {l : List Pt} {k : Nat} {p : Pt} (h : k ≤ l.length) : rbI l k k p = rbS l (rb l k) p := by
  unfold rbI rbS; rw [List.take_of_length_le (by rw [rb_len h]; omega)]
theorem rbI_no {l : List Pt} {k i : Nat} {p : Pt} (h : rbI l k i p = false) : rbS l (rb l k) p = false := by
  unfold rbI at h
  unfold rbS
  cases hb : (!p.wr && !held l p) with
  | false => rfl
  | true =>
    rw [hb, Bool.true_and] at h
    rw [Bool.true_and, ← List.take_append_drop i (rb l k), List.all_append, h]; rfl
theorem rbI_step {l : List Pt} {k i : Nat} {p q : Pt} (h : l[i]? = some q) (hi : i < k) (hk : k ≤ l.length) : rbI l k (i + 1) p = (rbI l k i p && (q.wr || !meet q p || rbS l (rb l i) q)) := by
  unfold rbI
  rw [List.take_add_one, rb_get h hi hk, List.all_append]
  simp [Bool.and_assoc]
set_option maxRecDepth 100000 in
set_option maxHeartbeats 4000000 in
theorem readies_any {w : World} {g : Nat} {Z : GZ} {a : Option Addr} {c : Nat} {L : List Pe} {R : Nat → Prop} (H : Rf w g Z a c L R) :
    Calls Tryz.prog 51 #[.pointer (some ⟨g, 0, none⟩)] w fun e w' => ∃ r, e = .returned (.slice (some ⟨r, 0, none⟩) L.length L.length) ∧ Cs w' r (bV (ryB Z.l L.length)) ∧ w.heap.size ≤ r ∧ Below w.heap.size w w' := by
  have t0 : True := trivial
  have hfew := H.few
  have hcap : L.length ≤ maxLen := by obtain ⟨_, _, _, h, _⟩ := H.row.shape; exact h
  have hlen' : Hid (L.length = Z.l.length) := H.len
  obtain ⟨z0, z1⟩ := H.cells
  go_enter Tryz.func51, Tryz.ntmps51
  go_wp2_with (first
    | (clear t0; refine at_mkb _ (by rfl) (by rfl) L.length (by rfl) (by omega) ?_; intro r w1 a1 a2 r1 b1))
  have i0 : Cs w1 r (bV (ryB Z.l 0)) := by
    have : ryB Z.l 0 = List.replicate L.length false := by unfold ryB; rw [hlen'.out]; simp [rb, rbs]
    rw [this]; exact r1
  clear r1 z0 z1
  go_loopw [4] (fun v wr => ∃ k : Nat, k ≤ L.length ∧ v = .int .i64 (k : Int) ∧ Cs wr r (bV (ryB Z.l k)) ∧ Below w.heap.size w wr) (fun v _ => L.length - (intOf v).toNat)
  case atStart => exact ⟨0, Nat.zero_le _, rfl, i0, b1⟩
  case round =>
    clear i0
    obtain ⟨k, hk, rfl, cR, B⟩ := hrel
    have H4 := H.later B
    obtain ⟨z0, z1⟩ := H4.cells
    have a5 : (0 : Int) ≤ (k : Int) := by omega
    by_cases hkl : k < L.length
    · have a6 : (k : Int) < (L.length : Int) := by omega
      obtain ⟨b, t, rfl, e2, hr⟩ := H4.row.el k hkl
      obtain ⟨l1, l2, m4⟩ := H4.dl e2
      obtain ⟨p, d, na, nn, nc⟩ := t
      have t1 : True := trivial
      have t2 : True := trivial
      have t3 : True := trivial
      go_upto_block 2 with (first
        | (clear t1; refine at_getE _ (by rfl) (by rfl) b (k * 9) (by rfl) ⟨p, d, ⟨na, nn, nc⟩⟩ hr ?_)
        | (clear t2; refine at_newP (by rfl) (by rfl) ?_; intro g5 w5 a3 a4 r5 b5)
        | (clear t3; refine at_putP (by rfl) _ _ (by rfl) g5 (by rfl) p d ⟨na, nn, nc⟩ (by rfl) _ r5 rfl ?_; intro w6 r6 s6; have c8 := (Pt.cells r6).2.2.2.2.2.2.2.2))
      have B6 : Below wr.heap.size wr w6 := ((Stp.of_below b5 (fun _ => False)).next s6 (fun x e => .inr (by omega))).below (Nat.le_refl _) (fun x e => e.elim)
      have H6 := H4.later B6
      have m6 := m4.later B6
      have cR6 := cR.later B6
      have hr6 := (Stp.of_below B6 (fun _ => False)).range hr id
      have hrr : r < wr.heap.size := cR.lt
      have hg5 : wr.heap.size ≤ g5 := a3
      have l6 := r6.lt
      have fp := H4.ok.ft p (H4.mem e2)
      have dp : d.n = p.data.length := m4.bs.len.symm
      have hget : Z.l[k]? = some p := H4.get e2
      have hnn : p.needs.length = nn := m4.is.i.len
      clear r5 b5 s6 H4 z0 z1 m4 hr cR
      subst hnn
      have hnmax : p.needs.length ≤ maxLen := Nat.le_trans m6.is.i.le m6.is.i.cap
      have c5 := (Pt.cells r6).2.2.2.2.2.1
      go_cut [6, 7] from 15 to 89 (fun u v wx => wx = w6 ∧ u = .bool (!p.wr && !held Z.l p))
      case first =>
        clear cR6 hr6
        go_wp2_with fail
        go_loopw [6, 7] (fun u v wx => ∃ i : Nat, i ≤ p.needs.length ∧ wx = w6 ∧ v = .int .i64 (i : Int) ∧ u = .bool (!p.wr && !((p.needs.take i).any (has Z.l)))) (fun _ v _ => p.needs.length - (intOf v).toNat)
        case atStart => exact ⟨0, Nat.zero_le _, rfl, rfl, by simp⟩
        case round =>
          obtain ⟨i, hi, rfl, rfl, rfl⟩ := hrel
          have q5 : (0 : Int) ≤ (i : Int) := by omega
          by_cases hil : i < p.needs.length
          · have q6 : (i : Int) < (p.needs.length : Int) := by omega
            obtain ⟨nb, no, en, hnc⟩ := m6.is.i.cell (by show 0 < p.needs.length; omega)
            simp only at en
            subst en
            have cn := hnc i hil
            have hst : (p.needs.take (i + 1)).any (has Z.l) = ((p.needs.take i).any (has Z.l) || has Z.l (p.needs.getD i 0)) := by
              rw [List.take_add_one, List.getElem?_eq_getElem hil, List.any_append, List.getD_eq_getElem?_getD, List.getElem?_eq_getElem hil]
              simp
            have hF := find_any H6 (p.needs.getD i 0)
            generalize hx0 : p.needs.getD i 0 = x at *
            obtain ⟨bb, hbb⟩ : ∃ bb, Hid ((!p.wr && !((p.needs.take i).any (has Z.l))) = bb) := ⟨_, rfl⟩
            rw [hbb.out]
            cases bb with
            | true =>
              have hb2 : Hid (p.wr = false ∧ (p.needs.take i).any (has Z.l) = false) := (by simpa using hbb.out : p.wr = false ∧ (p.needs.take i).any (has Z.l) = false)
              rcases fdx_cases Z.l x with ⟨f1, f2⟩ | ⟨j, q, f1, f2, f3, f4⟩
              · have hh : has Z.l x = false := by rw [has_fnd, f2]; rfl
                rw [f1] at hF
                clear f1 f2 hnc
                go_wp2_with (first
                  | (go_at_call 50; refine hF.mono ?_; rintro e w7 ⟨rfl, rfl⟩))
                go_roundw
                case rel => exact ⟨i + 1, by omega, by simp, by go_num, by rw [hst, hb2.out.1, hb2.out.2, hh]; rfl⟩
                case measure => simp [intOf]; omega
              · have hh : has Z.l x = true := by rw [has_fnd, f3]; rfl
                have q7 : ¬ (j : Int) < 0 := by omega
                rw [f1] at hF
                clear f1 f2 f3 f4 hnc
                go_wp2_with (first
                  | (go_at_call 50; refine hF.mono ?_; rintro e w7 ⟨rfl, rfl⟩))
                go_roundw
                case rel => exact ⟨i + 1, by omega, by simp, by go_num, by rw [hst, hb2.out.1, hb2.out.2, hh]; rfl⟩
                case measure => simp [intOf]; omega
            | false =>
              have hfin : Hid ((!p.wr && !held Z.l p) = false) := by
                show _ = _
                cases hw : p.wr with
                | true => rfl
                | false =>
                  have hb := hbb.out
                  rw [hw] at hb
                  have : (p.needs.take i).any (has Z.l) = true := by simpa using hb
                  rw [held_yes this]; rfl
              clear hnc hst hF
              go_wp2_with fail
              go_meet
              exact ⟨rfl, by rw [hfin.out]⟩
          · have ei : i = p.needs.length := by omega
            have q6 : ¬ (i : Int) < (p.needs.length : Int) := by omega
            have hfin : (!p.wr && !((p.needs.take i).any (has Z.l))) = (!p.wr && !held Z.l p) := by rw [ei, List.take_length]; rfl
            rw [hfin]
            go_wp2_with fail
            go_meet
            exact ⟨rfl, rfl⟩
      case rest =>
        obtain ⟨e0, rfl⟩ := hcut
        subst wc
        clear c5 c8
        obtain ⟨bs, hbs⟩ : ∃ bs, Hid ((!p.wr && !held Z.l p) = bs) := ⟨_, rfl⟩
        have hI0 : rbI Z.l k 0 p = bs := by rw [← hbs.out]; unfold rbI; simp
        rw [hbs.out]
        go_upto_block 4 with fail
        go_cut [6, 8] from 15 to 89 (fun u v wx => Below w6.heap.size w6 wx ∧ u = .bool (rbS Z.l (rb Z.l k) p))
        case first =>
          go_wp2_with fail
          go_loopw [6, 8] (fun u v wx => ∃ i : Nat, i ≤ k ∧ v = .int .i64 (i : Int) ∧ u = .bool (rbI Z.l k i p) ∧ Below w6.heap.size w6 wx) (fun _ v _ => k - (intOf v).toNat)
          case atStart => exact ⟨0, Nat.zero_le _, rfl, by rw [hI0], Below.refl _ _⟩
          case round =>
            clear hI0
            obtain ⟨i, hi, rfl, rfl, B8⟩ := hrel
            have q5 : (0 : Int) ≤ (i : Int) := by omega
            obtain ⟨bb, hbb⟩ : ∃ bb, Hid (rbI Z.l k i p = bb) := ⟨_, rfl⟩
            rw [hbb.out]
            by_cases hik : i < k
            · have q6 : (i : Int) < (k : Int) := by omega
              have q7 : (i : Int) < (L.length : Int) := by omega
              cases bb with
              | true =>
                have H8 := H6.later B8
                obtain ⟨z0, z1⟩ := H8.cells
                obtain ⟨b', t, eb, e3, hrt⟩ := H8.row.el i (by omega)
                injection eb with eb; injection eb with eb; subst eb
                have ft := H8.ok.ft _ (H8.mem e3)
                have lt : t.d.n = t.p.data.length := (H8.dl e3).2.2.bs.len.symm
                have r8 := r6.later B8
                have hst := rbI_step (p := p) (H8.get e3) hik (by rw [← hlen'.out]; exact hk)
                have cy := (cR6.later B8).cell i (.bool (rbS Z.l (rb Z.l i) t.p)) (by unfold bV; rw [List.getElem?_map, ryB_get (H8.get e3) hik (by rw [← hlen'.out]; exact hk)]; rfl)
                have hM := fun w => rmeet_any w t ⟨p, d, ⟨na, p.needs.length, nc⟩⟩ ft fp lt dp
                have hst' : Hid (rbI Z.l k (i + 1) p = (t.p.wr || !meet t.p p || rbS Z.l (rb Z.l i) t.p)) := (by rw [hst, hbb.out, Bool.true_and] : rbI Z.l k (i + 1) p = (t.p.wr || !meet t.p p || rbS Z.l (rb Z.l i) t.p))
                clear hst
                obtain ⟨y, hy⟩ : ∃ y, Hid (rbS Z.l (rb Z.l i) t.p = y) := ⟨_, rfl⟩
                rw [hy.out] at cy
                obtain ⟨wb, hw⟩ : ∃ wb, Hid (t.p.wr = wb) := ⟨_, rfl⟩
                go_wp2_with fail
                refine wp_region_held_drew (S := fun u => Below wr.heap.size wr u) (by kernel_rfl) (Below.refl _ _).drew (fun hHeld => ?_)
                cases wb with
                | true =>
                  refine wpAnyH_take (i := 0) (oi := { dst := some 60, op := Op.move (Operand.tmp 0), type := 25, pos := _, after := #[], guard := none }) (v := .pointer (some ⟨g, 0, none⟩)) rfl (by kernel_rfl) (by kernel_rfl) (by kernel_rfl) (fun _ _ _ h => h) (Or.inl ⟨by rfl, ?_⟩) hHeld ?_
                  · intro u hu
                    go_simp
                  try simp only [Act.put, List.setIfInBounds_toArray, List.set_cons_zero, List.set_cons_succ]
                  refine wpAnyH_take (i := 1) (oi := { dst := some 61, op := Op.nilCheck (Operand.tmp 60), type := 0, pos := _, after := #[{ on := 0, ground := Ground.data }], guard := none }) (v := .pointer (some ⟨g, 0, none⟩)) rfl (by kernel_rfl) (by kernel_rfl) (by kernel_rfl) (fun _ _ _ h => h) (Or.inl ⟨by rfl, ?_⟩) hHeld ?_
                  · intro u hu
                    go_simp
                  try simp only [Act.put, List.setIfInBounds_toArray, List.set_cons_zero, List.set_cons_succ]
                  refine wpAnyH_take (i := 2) (oi := { dst := some 62, op := Op.fieldAddr 57 (Operand.tmp 61) 1, type := 0, pos := _, after := #[{ on := 1, ground := Ground.data }], guard := none }) (v := .pointer (some ⟨g, 1, none⟩)) rfl (by kernel_rfl) (by kernel_rfl) (by kernel_rfl) (fun _ _ _ h => h) (Or.inl ⟨by rfl, ?_⟩) hHeld ?_
                  · intro u hu
                    go_simp
                  try simp only [Act.put, List.setIfInBounds_toArray, List.set_cons_zero, List.set_cons_succ]
                  refine wpAnyH_take (i := 3) (oi := { dst := some 63, op := Op.load 22 (Operand.tmp 62), type := 22, pos := _, after := #[{ on := 2, ground := Ground.data }], guard := none }) (v := .slice (some ⟨b, 0, none⟩) L.length c) rfl (by kernel_rfl) (by kernel_rfl) (by kernel_rfl) (fun _ _ _ h => h) (Or.inl ⟨by rfl, ?_⟩) hHeld ?_
                  · intro u hu
                    have x1 := (Stp.of_below hu (fun _ => False)).cell z1 id; go_simp
                  try simp only [Act.put, List.setIfInBounds_toArray, List.set_cons_zero, List.set_cons_succ]
                  refine wpAnyH_take (i := 4) (oi := { dst := some 64, op := Op.move (Operand.tmp 8), type := 3, pos := _, after := #[], guard := none }) (v := .int .i64 (i : Int)) rfl (by kernel_rfl) (by kernel_rfl) (by kernel_rfl) (fun _ _ _ h => h) (Or.inl ⟨by rfl, ?_⟩) hHeld ?_
                  · intro u hu
                    go_simp
                  try simp only [Act.put, List.setIfInBounds_toArray, List.set_cons_zero, List.set_cons_succ]
                  refine wpAnyH_take (i := 5) (oi := { dst := some 65, op := Op.indexAddr 22 (Operand.tmp 63) (Operand.tmp 64), type := 0, pos := _, after := #[{ on := 3, ground := Ground.data }, { on := 4, ground := Ground.data }], guard := none }) (v := .pointer (some ⟨b, i * 9, none⟩)) rfl (by kernel_rfl) (by kernel_rfl) (by kernel_rfl) (fun _ _ _ h => h) (Or.inl ⟨by rfl, ?_⟩) hHeld ?_
                  · intro u hu
                    go_simp
                  try simp only [Act.put, List.setIfInBounds_toArray, List.set_cons_zero, List.set_cons_succ]
                  refine wpAnyH_take (i := 6) (oi := { dst := some 66, op := Op.fieldAddr 54 (Operand.tmp 65) 8, type := 0, pos := _, after := #[{ on := 5, ground := Ground.data }], guard := none }) (v := .pointer (some ⟨b, i * 9 + 8, none⟩)) rfl (by kernel_rfl) (by kernel_rfl) (by kernel_rfl) (fun _ _ _ h => h) (Or.inl ⟨by rfl, ?_⟩) hHeld ?_
                  · intro u hu
                    go_simp
                  try simp only [Act.put, List.setIfInBounds_toArray, List.set_cons_zero, List.set_cons_succ]
                  refine wpAnyH_take (i := 7) (oi := { dst := some 67, op := Op.load 4 (Operand.tmp 66), type := 4, pos := _, after := #[{ on := 6, ground := Ground.data }], guard := none }) (v := .bool true) rfl (by kernel_rfl) (by kernel_rfl) (by kernel_rfl) (fun _ _ _ h => h) (Or.inl ⟨by rfl, ?_⟩) hHeld ?_
                  · intro u hu
                    have x1 := (Stp.of_below hu (fun _ => False)).cell (Pe.at9 hrt).2.2.2.2.2.2.2.2 id; rw [hw.out] at x1; go_simp
                  try simp only [Act.put, List.setIfInBounds_toArray, List.set_cons_zero, List.set_cons_succ]
                  refine wpAnyH_take (i := 8) (oi := { dst := some 68, op := Op.move (Operand.tmp 67), type := 4, pos := _, after := #[{ on := 7, ground := Ground.data }], guard := none }) (v := .bool true) rfl (by kernel_rfl) (by kernel_rfl) (by kernel_rfl) (fun _ _ _ h => h) (Or.inl ⟨by rfl, ?_⟩) hHeld ?_
                  · intro u hu
                    go_simp
                  try simp only [Act.put, List.setIfInBounds_toArray, List.set_cons_zero, List.set_cons_succ]
                  refine wpAnyH_take (i := 9) (oi := { dst := some 69, op := Op.move (Operand.tmp 0), type := 25, pos := _, after := #[{ on := 8, ground := Ground.guard }], guard := some (8, false) }) (v := undef) rfl (by kernel_rfl) (by kernel_rfl) (by kernel_rfl) (fun _ _ _ h => h)
                    (Or.inr ⟨by rfl, rfl⟩) hHeld ?_
                  try simp only [Act.put, List.setIfInBounds_toArray, List.set_cons_zero, List.set_cons_succ]
                  refine wpAnyH_take (i := 10) (oi := { dst := some 70, op := Op.nilCheck (Operand.tmp 69), type := 0, pos := _, after := #[{ on := 9, ground := Ground.data }, { on := 8, ground := Ground.guard }], guard := some (8, false) }) (v := undef) rfl (by kernel_rfl) (by kernel_rfl) (by kernel_rfl) (fun _ _ _ h => h)
                    (Or.inr ⟨by rfl, rfl⟩) hHeld ?_
                  try simp only [Act.put, List.setIfInBounds_toArray, List.set_cons_zero, List.set_cons_succ]
                  refine wpAnyH_take (i := 11) (oi := { dst := some 71, op := Op.fieldAddr 57 (Operand.tmp 70) 1, type := 0, pos := _, after := #[{ on := 10, ground := Ground.data }, { on := 8, ground := Ground.guard }], guard := some (8, false) }) (v := undef) rfl (by kernel_rfl) (by kernel_rfl) (by kernel_rfl) (fun _ _ _ h => h)
                    (Or.inr ⟨by rfl, rfl⟩) hHeld ?_
                  try simp only [Act.put, List.setIfInBounds_toArray, List.set_cons_zero, List.set_cons_succ]
                  refine wpAnyH_take (i := 12) (oi := { dst := some 72, op := Op.load 22 (Operand.tmp 71), type := 22, pos := _, after := #[{ on := 11, ground := Ground.data }, { on := 8, ground := Ground.guard }], guard := some (8, false) }) (v := undef) rfl (by kernel_rfl) (by kernel_rfl) (by kernel_rfl) (fun _ _ _ h => h)
                    (Or.inr ⟨by rfl, rfl⟩) hHeld ?_
                  try simp only [Act.put, List.setIfInBounds_toArray, List.set_cons_zero, List.set_cons_succ]
                  refine wpAnyH_take (i := 13) (oi := { dst := some 73, op := Op.move (Operand.tmp 8), type := 3, pos := _, after := #[{ on := 8, ground := Ground.guard }], guard := some (8, false) }) (v := undef) rfl (by kernel_rfl) (by kernel_rfl) (by kernel_rfl) (fun _ _ _ h => h)
                    (Or.inr ⟨by rfl, rfl⟩) hHeld ?_
                  try simp only [Act.put, List.setIfInBounds_toArray, List.set_cons_zero, List.set_cons_succ]
                  refine wpAnyH_take (i := 14) (oi := { dst := some 74, op := Op.indexAddr 22 (Operand.tmp 72) (Operand.tmp 73), type := 0, pos := _, after := #[{ on := 12, ground := Ground.data }, { on := 13, ground := Ground.data }, { on := 8, ground := Ground.guard }], guard := some (8, false) }) (v := undef) rfl (by kernel_rfl) (by kernel_rfl) (by kernel_rfl) (fun _ _ _ h => h)
                    (Or.inr ⟨by rfl, rfl⟩) hHeld ?_
                  try simp only [Act.put, List.setIfInBounds_toArray, List.set_cons_zero, List.set_cons_succ]
                  refine wpAnyH_take (i := 15) (oi := { dst := some 75, op := Op.load 54 (Operand.tmp 74), type := 54, pos := _, after := #[{ on := 14, ground := Ground.data }, { on := 8, ground := Ground.guard }], guard := some (8, false) }) (v := undef) rfl (by kernel_rfl) (by kernel_rfl) (by kernel_rfl) (fun _ _ _ h => h)
                    (Or.inr ⟨by rfl, rfl⟩) hHeld ?_
                  try simp only [Act.put, List.setIfInBounds_toArray, List.set_cons_zero, List.set_cons_succ]
                  refine wpAnyH_take (i := 16) (oi := { dst := some 76, op := Op.load 54 (Operand.tmp 5), type := 54, pos := _, after := #[{ on := 8, ground := Ground.guard }], guard := some (8, false) }) (v := undef) rfl (by kernel_rfl) (by kernel_rfl) (by kernel_rfl) (fun _ _ _ h => h)
                    (Or.inr ⟨by rfl, rfl⟩) hHeld ?_
                  try simp only [Act.put, List.setIfInBounds_toArray, List.set_cons_zero, List.set_cons_succ]
                  refine wpAnyH_take (i := 17) (oi := { dst := some 77, op := Op.call { callee := Callee.value (Operand.func 67), args := #[Operand.tmp 75, Operand.tmp 76], argTypes := #[54, 54] }, type := 4, pos := _, after := #[{ on := 15, ground := Ground.data }, { on := 16, ground := Ground.data }, { on := 8, ground := Ground.chain }, { on := 8, ground := Ground.guard }], guard := some (8, false) }) (v := undef) rfl (by kernel_rfl) (by kernel_rfl) (by kernel_rfl) (fun _ _ _ h => h)
                    (Or.inr ⟨by rfl, rfl⟩) hHeld ?_
                  try simp only [Act.put, List.setIfInBounds_toArray, List.set_cons_zero, List.set_cons_succ]
                  refine wpAnyH_take (i := 18) (oi := { dst := some 78, op := Op.unOp UnOp.not 4 (Operand.tmp 77), type := 4, pos := _, after := #[{ on := 17, ground := Ground.data }, { on := 8, ground := Ground.guard }], guard := some (8, false) }) (v := undef) rfl (by kernel_rfl) (by kernel_rfl) (by kernel_rfl) (fun _ _ _ h => h)
                    (Or.inr ⟨by rfl, rfl⟩) hHeld ?_
                  try simp only [Act.put, List.setIfInBounds_toArray, List.set_cons_zero, List.set_cons_succ]
                  refine wpAnyH_take (i := 19) (oi := { dst := some 79, op := Op.pick (Operand.tmp 68) (Operand.const (Value.bool true)) (Operand.tmp 78), type := 4, pos := _, after := #[{ on := 8, ground := Ground.data }, { on := 18, ground := Ground.data }], guard := none }) (v := .bool true) rfl (by kernel_rfl) (by kernel_rfl) (by kernel_rfl) (fun _ _ _ h => h) (Or.inl ⟨by rfl, ?_⟩) hHeld ?_
                  · intro u hu
                    go_simp
                  try simp only [Act.put, List.setIfInBounds_toArray, List.set_cons_zero, List.set_cons_succ]
                  refine wpAnyH_take (i := 20) (oi := { dst := some 80, op := Op.move (Operand.tmp 79), type := 4, pos := _, after := #[{ on := 19, ground := Ground.data }, { on := 17, ground := Ground.chain }], guard := none }) (v := .bool true) rfl (by kernel_rfl) (by kernel_rfl) (by kernel_rfl) (fun _ _ _ h => h) (Or.inl ⟨by rfl, ?_⟩) hHeld ?_
                  · intro u hu
                    go_simp
                  try simp only [Act.put, List.setIfInBounds_toArray, List.set_cons_zero, List.set_cons_succ]
                  refine wpAnyH_take (i := 21) (oi := { dst := some 81, op := Op.move (Operand.tmp 3), type := 83, pos := _, after := #[{ on := 20, ground := Ground.guard }], guard := some (20, false) }) (v := undef) rfl (by kernel_rfl) (by kernel_rfl) (by kernel_rfl) (fun _ _ _ h => h)
                    (Or.inr ⟨by rfl, rfl⟩) hHeld ?_
                  try simp only [Act.put, List.setIfInBounds_toArray, List.set_cons_zero, List.set_cons_succ]
                  refine wpAnyH_take (i := 22) (oi := { dst := some 82, op := Op.move (Operand.tmp 8), type := 3, pos := _, after := #[{ on := 20, ground := Ground.guard }], guard := some (20, false) }) (v := undef) rfl (by kernel_rfl) (by kernel_rfl) (by kernel_rfl) (fun _ _ _ h => h)
                    (Or.inr ⟨by rfl, rfl⟩) hHeld ?_
                  try simp only [Act.put, List.setIfInBounds_toArray, List.set_cons_zero, List.set_cons_succ]
                  refine wpAnyH_take (i := 23) (oi := { dst := some 83, op := Op.indexAddr 83 (Operand.tmp 81) (Operand.tmp 82), type := 0, pos := _, after := #[{ on := 21, ground := Ground.data }, { on := 22, ground := Ground.data }, { on := 20, ground := Ground.guard }], guard := some (20, false) }) (v := undef) rfl (by kernel_rfl) (by kernel_rfl) (by kernel_rfl) (fun _ _ _ h => h)
                    (Or.inr ⟨by rfl, rfl⟩) hHeld ?_
                  try simp only [Act.put, List.setIfInBounds_toArray, List.set_cons_zero, List.set_cons_succ]
                  refine wpAnyH_take (i := 24) (oi := { dst := some 84, op := Op.load 4 (Operand.tmp 83), type := 4, pos := _, after := #[{ on := 23, ground := Ground.data }, { on := 20, ground := Ground.guard }], guard := some (20, false) }) (v := undef) rfl (by kernel_rfl) (by kernel_rfl) (by kernel_rfl) (fun _ _ _ h => h)
                    (Or.inr ⟨by rfl, rfl⟩) hHeld ?_
                  try simp only [Act.put, List.setIfInBounds_toArray, List.set_cons_zero, List.set_cons_succ]
                  refine wpAnyH_take (i := 25) (oi := { dst := some 85, op := Op.pick (Operand.tmp 80) (Operand.const (Value.bool true)) (Operand.tmp 84), type := 4, pos := _, after := #[{ on := 20, ground := Ground.data }, { on := 24, ground := Ground.data }], guard := none }) (v := .bool true) rfl (by kernel_rfl) (by kernel_rfl) (by kernel_rfl) (fun _ _ _ h => h) (Or.inl ⟨by rfl, ?_⟩) hHeld ?_
                  · intro u hu
                    go_simp
                  try simp only [Act.put, List.setIfInBounds_toArray, List.set_cons_zero, List.set_cons_succ]
                  refine wpAnyH_take (i := 26) (oi := { dst := some 6, op := Op.assign (Operand.tmp 85), type := 4, pos := _, after := #[{ on := 25, ground := Ground.data }, { on := 20, ground := Ground.chain }, { on := 0, ground := Ground.phase }, { on := 1, ground := Ground.phase }, { on := 2, ground := Ground.phase }, { on := 3, ground := Ground.phase }, { on := 4, ground := Ground.phase }, { on := 5, ground := Ground.phase }, { on := 6, ground := Ground.phase }, { on := 7, ground := Ground.phase }, { on := 8, ground := Ground.phase }, { on := 9, ground := Ground.phase }, { on := 10, ground := Ground.phase }, { on := 11, ground := Ground.phase }, { on := 12, ground := Ground.phase }, { on := 13, ground := Ground.phase }, { on := 14, ground := Ground.phase }, { on := 15, ground := Ground.phase }, { on := 16, ground := Ground.phase }, { on := 17, ground := Ground.phase }, { on := 18, ground := Ground.phase }, { on := 19, ground := Ground.phase }, { on := 20, ground := Ground.phase }, { on := 21, ground := Ground.phase }, { on := 22, ground := Ground.phase }, { on := 23, ground := Ground.phase }, { on := 24, ground := Ground.phase }, { on := 25, ground := Ground.phase }], guard := none }) (v := .bool true) rfl (by kernel_rfl) (by kernel_rfl) (by kernel_rfl) (fun _ _ _ h => h) (Or.inl ⟨by rfl, ?_⟩) hHeld ?_
                  · intro u hu
                    go_simp
                  try simp only [Act.put, List.setIfInBounds_toArray, List.set_cons_zero, List.set_cons_succ]
                  refine wpAnyH_done (by kernel_rfl) ?_ _
                  have B9 := bnext B8 hHeld (Nat.le_refl _)
                  go_wp2_with fail
                  go_roundw
                  case rel => exact ⟨i + 1, by omega, by go_num, by rw [hst'.out, hw.out] ; rfl, B9⟩
                  case measure => simp [intOf]; omega
                | false =>
                  cases hm : meet t.p p with
                  | false =>
                    refine wpAnyH_take (i := 0) (oi := { dst := some 60, op := Op.move (Operand.tmp 0), type := 25, pos := _, after := #[], guard := none }) (v := .pointer (some ⟨g, 0, none⟩)) rfl (by kernel_rfl) (by kernel_rfl) (by kernel_rfl) (fun _ _ _ h => h) (Or.inl ⟨by rfl, ?_⟩) hHeld ?_
                    · intro u hu
                      go_simp
                    try simp only [Act.put, List.setIfInBounds_toArray, List.set_cons_zero, List.set_cons_succ]
                    refine wpAnyH_take (i := 1) (oi := { dst := some 61, op := Op.nilCheck (Operand.tmp 60), type := 0, pos := _, after := #[{ on := 0, ground := Ground.data }], guard := none }) (v := .pointer (some ⟨g, 0, none⟩)) rfl (by kernel_rfl) (by kernel_rfl) (by kernel_rfl) (fun _ _ _ h => h) (Or.inl ⟨by rfl, ?_⟩) hHeld ?_
                    · intro u hu
                      go_simp
                    try simp only [Act.put, List.setIfInBounds_toArray, List.set_cons_zero, List.set_cons_succ]
                    refine wpAnyH_take (i := 2) (oi := { dst := some 62, op := Op.fieldAddr 57 (Operand.tmp 61) 1, type := 0, pos := _, after := #[{ on := 1, ground := Ground.data }], guard := none }) (v := .pointer (some ⟨g, 1, none⟩)) rfl (by kernel_rfl) (by kernel_rfl) (by kernel_rfl) (fun _ _ _ h => h) (Or.inl ⟨by rfl, ?_⟩) hHeld ?_
                    · intro u hu
                      go_simp
                    try simp only [Act.put, List.setIfInBounds_toArray, List.set_cons_zero, List.set_cons_succ]
                    refine wpAnyH_take (i := 3) (oi := { dst := some 63, op := Op.load 22 (Operand.tmp 62), type := 22, pos := _, after := #[{ on := 2, ground := Ground.data }], guard := none }) (v := .slice (some ⟨b, 0, none⟩) L.length c) rfl (by kernel_rfl) (by kernel_rfl) (by kernel_rfl) (fun _ _ _ h => h) (Or.inl ⟨by rfl, ?_⟩) hHeld ?_
                    · intro u hu
                      have x1 := (Stp.of_below hu (fun _ => False)).cell z1 id; go_simp
                    try simp only [Act.put, List.setIfInBounds_toArray, List.set_cons_zero, List.set_cons_succ]
                    refine wpAnyH_take (i := 4) (oi := { dst := some 64, op := Op.move (Operand.tmp 8), type := 3, pos := _, after := #[], guard := none }) (v := .int .i64 (i : Int)) rfl (by kernel_rfl) (by kernel_rfl) (by kernel_rfl) (fun _ _ _ h => h) (Or.inl ⟨by rfl, ?_⟩) hHeld ?_
                    · intro u hu
                      go_simp
                    try simp only [Act.put, List.setIfInBounds_toArray, List.set_cons_zero, List.set_cons_succ]
                    refine wpAnyH_take (i := 5) (oi := { dst := some 65, op := Op.indexAddr 22 (Operand.tmp 63) (Operand.tmp 64), type := 0, pos := _, after := #[{ on := 3, ground := Ground.data }, { on := 4, ground := Ground.data }], guard := none }) (v := .pointer (some ⟨b, i * 9, none⟩)) rfl (by kernel_rfl) (by kernel_rfl) (by kernel_rfl) (fun _ _ _ h => h) (Or.inl ⟨by rfl, ?_⟩) hHeld ?_
                    · intro u hu
                      go_simp
                    try simp only [Act.put, List.setIfInBounds_toArray, List.set_cons_zero, List.set_cons_succ]
                    refine wpAnyH_take (i := 6) (oi := { dst := some 66, op := Op.fieldAddr 54 (Operand.tmp 65) 8, type := 0, pos := _, after := #[{ on := 5, ground := Ground.data }], guard := none }) (v := .pointer (some ⟨b, i * 9 + 8, none⟩)) rfl (by kernel_rfl) (by kernel_rfl) (by kernel_rfl) (fun _ _ _ h => h) (Or.inl ⟨by rfl, ?_⟩) hHeld ?_
                    · intro u hu
                      go_simp
                    try simp only [Act.put, List.setIfInBounds_toArray, List.set_cons_zero, List.set_cons_succ]
                    refine wpAnyH_take (i := 7) (oi := { dst := some 67, op := Op.load 4 (Operand.tmp 66), type := 4, pos := _, after := #[{ on := 6, ground := Ground.data }], guard := none }) (v := .bool false) rfl (by kernel_rfl) (by kernel_rfl) (by kernel_rfl) (fun _ _ _ h => h) (Or.inl ⟨by rfl, ?_⟩) hHeld ?_
                    · intro u hu
                      have x1 := (Stp.of_below hu (fun _ => False)).cell (Pe.at9 hrt).2.2.2.2.2.2.2.2 id; rw [hw.out] at x1; go_simp
                    try simp only [Act.put, List.setIfInBounds_toArray, List.set_cons_zero, List.set_cons_succ]
                    refine wpAnyH_take (i := 8) (oi := { dst := some 68, op := Op.move (Operand.tmp 67), type := 4, pos := _, after := #[{ on := 7, ground := Ground.data }], guard := none }) (v := .bool false) rfl (by kernel_rfl) (by kernel_rfl) (by kernel_rfl) (fun _ _ _ h => h) (Or.inl ⟨by rfl, ?_⟩) hHeld ?_
                    · intro u hu
                      go_simp
                    try simp only [Act.put, List.setIfInBounds_toArray, List.set_cons_zero, List.set_cons_succ]
                    refine wpAnyH_take (i := 9) (oi := { dst := some 69, op := Op.move (Operand.tmp 0), type := 25, pos := _, after := #[{ on := 8, ground := Ground.guard }], guard := some (8, false) }) (v := .pointer (some ⟨g, 0, none⟩)) rfl (by kernel_rfl) (by kernel_rfl) (by kernel_rfl) (fun _ _ _ h => h) (Or.inl ⟨by rfl, ?_⟩) hHeld ?_
                    · intro u hu
                      go_simp
                    try simp only [Act.put, List.setIfInBounds_toArray, List.set_cons_zero, List.set_cons_succ]
                    refine wpAnyH_take (i := 10) (oi := { dst := some 70, op := Op.nilCheck (Operand.tmp 69), type := 0, pos := _, after := #[{ on := 9, ground := Ground.data }, { on := 8, ground := Ground.guard }], guard := some (8, false) }) (v := .pointer (some ⟨g, 0, none⟩)) rfl (by kernel_rfl) (by kernel_rfl) (by kernel_rfl) (fun _ _ _ h => h) (Or.inl ⟨by rfl, ?_⟩) hHeld ?_
                    · intro u hu
                      go_simp
                    try simp only [Act.put, List.setIfInBounds_toArray, List.set_cons_zero, List.set_cons_succ]
                    refine wpAnyH_take (i := 11) (oi := { dst := some 71, op := Op.fieldAddr 57 (Operand.tmp 70) 1, type := 0, pos := _, after := #[{ on := 10, ground := Ground.data }, { on := 8, ground := Ground.guard }], guard := some (8, false) }) (v := .pointer (some ⟨g, 1, none⟩)) rfl (by kernel_rfl) (by kernel_rfl) (by kernel_rfl) (fun _ _ _ h => h) (Or.inl ⟨by rfl, ?_⟩) hHeld ?_
                    · intro u hu
                      go_simp
                    try simp only [Act.put, List.setIfInBounds_toArray, List.set_cons_zero, List.set_cons_succ]
                    refine wpAnyH_take (i := 12) (oi := { dst := some 72, op := Op.load 22 (Operand.tmp 71), type := 22, pos := _, after := #[{ on := 11, ground := Ground.data }, { on := 8, ground := Ground.guard }], guard := some (8, false) }) (v := .slice (some ⟨b, 0, none⟩) L.length c) rfl (by kernel_rfl) (by kernel_rfl) (by kernel_rfl) (fun _ _ _ h => h) (Or.inl ⟨by rfl, ?_⟩) hHeld ?_
                    · intro u hu
                      have x1 := (Stp.of_below hu (fun _ => False)).cell z1 id; go_simp
                    try simp only [Act.put, List.setIfInBounds_toArray, List.set_cons_zero, List.set_cons_succ]
                    refine wpAnyH_take (i := 13) (oi := { dst := some 73, op := Op.move (Operand.tmp 8), type := 3, pos := _, after := #[{ on := 8, ground := Ground.guard }], guard := some (8, false) }) (v := .int .i64 (i : Int)) rfl (by kernel_rfl) (by kernel_rfl) (by kernel_rfl) (fun _ _ _ h => h) (Or.inl ⟨by rfl, ?_⟩) hHeld ?_
                    · intro u hu
                      go_simp
                    try simp only [Act.put, List.setIfInBounds_toArray, List.set_cons_zero, List.set_cons_succ]
                    refine wpAnyH_take (i := 14) (oi := { dst := some 74, op := Op.indexAddr 22 (Operand.tmp 72) (Operand.tmp 73), type := 0, pos := _, after := #[{ on := 12, ground := Ground.data }, { on := 13, ground := Ground.data }, { on := 8, ground := Ground.guard }], guard := some (8, false) }) (v := .pointer (some ⟨b, i * 9, none⟩)) rfl (by kernel_rfl) (by kernel_rfl) (by kernel_rfl) (fun _ _ _ h => h) (Or.inl ⟨by rfl, ?_⟩) hHeld ?_
                    · intro u hu
                      go_simp
                    try simp only [Act.put, List.setIfInBounds_toArray, List.set_cons_zero, List.set_cons_succ]
                    refine wpAnyH_take (i := 15) (oi := { dst := some 75, op := Op.load 54 (Operand.tmp 74), type := 54, pos := _, after := #[{ on := 14, ground := Ground.data }, { on := 8, ground := Ground.guard }], guard := some (8, false) }) (v := .agg t.cs.toArray) rfl (by kernel_rfl) (by kernel_rfl) (by kernel_rfl) (fun _ _ _ h => h)
                      (yields_E (by rfl) _ (by rfl) b (i * 9) (by rfl) t (fun u hu => (Stp.of_below hu (fun _ => False)).range hrt id)) hHeld ?_
                    try simp only [Act.put, List.setIfInBounds_toArray, List.set_cons_zero, List.set_cons_succ]
                    refine wpAnyH_take (i := 16) (oi := { dst := some 76, op := Op.load 54 (Operand.tmp 5), type := 54, pos := _, after := #[{ on := 8, ground := Ground.guard }], guard := some (8, false) }) (v := .agg (p.cs d ⟨na, p.needs.length, nc⟩).toArray) rfl (by kernel_rfl) (by kernel_rfl) (by kernel_rfl) (fun _ _ _ h => h)
                      (yields_P (by rfl) _ (by rfl) g5 (by rfl) p d ⟨na, p.needs.length, nc⟩ (fun u hu => r8.later hu)) hHeld ?_
                    try simp only [Act.put, List.setIfInBounds_toArray, List.set_cons_zero, List.set_cons_succ]
                    refine wpAnyH_ready (rs := [17]) (by kernel_rfl) (by simp) ?_
                    refine (AllReadyH.cons (o := { dst := some 77, op := Op.call { callee := Callee.value (Operand.func 67), args := #[Operand.tmp 75, Operand.tmp 76], argTypes := #[54, 54] }, type := 4, pos := _, after := #[{ on := 15, ground := Ground.data }, { on := 16, ground := Ground.data }, { on := 8, ground := Ground.chain }, { on := 8, ground := Ground.guard }], guard := some (8, false) }) rfl (fun K hK => ?_) AllReadyH.nil)
                    go_simp
                    refine (hM _).mono ?_
                    rw [hm]
                    rintro e w7 ⟨rfl, q7⟩
                    try go_wp2_with fail
                    refine hK.out _ _ (bnext (by assumption) q7 (Nat.le_refl _)) (fun hHeld => ?_)
                    clear hK K
                    try simp only [Act.put, List.setIfInBounds_toArray, List.set_cons_zero, List.set_cons_succ]
                    refine wpAnyH_take (i := 18) (oi := { dst := some 78, op := Op.unOp UnOp.not 4 (Operand.tmp 77), type := 4, pos := _, after := #[{ on := 17, ground := Ground.data }, { on := 8, ground := Ground.guard }], guard := some (8, false) }) (v := .bool true) rfl (by kernel_rfl) (by kernel_rfl) (by kernel_rfl) (fun _ _ _ h => h) (Or.inl ⟨by rfl, ?_⟩) hHeld ?_
                    · intro u hu
                      go_simp
                    try simp only [Act.put, List.setIfInBounds_toArray, List.set_cons_zero, List.set_cons_succ]
                    refine wpAnyH_take (i := 19) (oi := { dst := some 79, op := Op.pick (Operand.tmp 68) (Operand.const (Value.bool true)) (Operand.tmp 78), type := 4, pos := _, after := #[{ on := 8, ground := Ground.data }, { on := 18, ground := Ground.data }], guard := none }) (v := .bool true) rfl (by kernel_rfl) (by kernel_rfl) (by kernel_rfl) (fun _ _ _ h => h) (Or.inl ⟨by rfl, ?_⟩) hHeld ?_
                    · intro u hu
                      go_simp
                    try simp only [Act.put, List.setIfInBounds_toArray, List.set_cons_zero, List.set_cons_succ]
                    refine wpAnyH_take (i := 20) (oi := { dst := some 80, op := Op.move (Operand.tmp 79), type := 4, pos := _, after := #[{ on := 19, ground := Ground.data }, { on := 17, ground := Ground.chain }], guard := none }) (v := .bool true) rfl (by kernel_rfl) (by kernel_rfl) (by kernel_rfl) (fun _ _ _ h => h) (Or.inl ⟨by rfl, ?_⟩) hHeld ?_
                    · intro u hu
                      go_simp
                    try simp only [Act.put, List.setIfInBounds_toArray, List.set_cons_zero, List.set_cons_succ]
                    refine wpAnyH_take (i := 21) (oi := { dst := some 81, op := Op.move (Operand.tmp 3), type := 83, pos := _, after := #[{ on := 20, ground := Ground.guard }], guard := some (20, false) }) (v := undef) rfl (by kernel_rfl) (by kernel_rfl) (by kernel_rfl) (fun _ _ _ h => h)
                      (Or.inr ⟨by rfl, rfl⟩) hHeld ?_
                    try simp only [Act.put, List.setIfInBounds_toArray, List.set_cons_zero, List.set_cons_succ]
                    refine wpAnyH_take (i := 22) (oi := { dst := some 82, op := Op.move (Operand.tmp 8), type := 3, pos := _, after := #[{ on := 20, ground := Ground.guard }], guard := some (20, false) }) (v := undef) rfl (by kernel_rfl) (by kernel_rfl) (by kernel_rfl) (fun _ _ _ h => h)
                      (Or.inr ⟨by rfl, rfl⟩) hHeld ?_
                    try simp only [Act.put, List.setIfInBounds_toArray, List.set_cons_zero, List.set_cons_succ]
                    refine wpAnyH_take (i := 23) (oi := { dst := some 83, op := Op.indexAddr 83 (Operand.tmp 81) (Operand.tmp 82), type := 0, pos := _, after := #[{ on := 21, ground := Ground.data }, { on := 22, ground := Ground.data }, { on := 20, ground := Ground.guard }], guard := some (20, false) }) (v := undef) rfl (by kernel_rfl) (by kernel_rfl) (by kernel_rfl) (fun _ _ _ h => h)
                      (Or.inr ⟨by rfl, rfl⟩) hHeld ?_
                    try simp only [Act.put, List.setIfInBounds_toArray, List.set_cons_zero, List.set_cons_succ]
                    refine wpAnyH_take (i := 24) (oi := { dst := some 84, op := Op.load 4 (Operand.tmp 83), type := 4, pos := _, after := #[{ on := 23, ground := Ground.data }, { on := 20, ground := Ground.guard }], guard := some (20, false) }) (v := undef) rfl (by kernel_rfl) (by kernel_rfl) (by kernel_rfl) (fun _ _ _ h => h)
                      (Or.inr ⟨by rfl, rfl⟩) hHeld ?_
                    try simp only [Act.put, List.setIfInBounds_toArray, List.set_cons_zero, List.set_cons_succ]
                    refine wpAnyH_take (i := 25) (oi := { dst := some 85, op := Op.pick (Operand.tmp 80) (Operand.const (Value.bool true)) (Operand.tmp 84), type := 4, pos := _, after := #[{ on := 20, ground := Ground.data }, { on := 24, ground := Ground.data }], guard := none }) (v := .bool true) rfl (by kernel_rfl) (by kernel_rfl) (by kernel_rfl) (fun _ _ _ h => h) (Or.inl ⟨by rfl, ?_⟩) hHeld ?_
                    · intro u hu
                      go_simp
                    try simp only [Act.put, List.setIfInBounds_toArray, List.set_cons_zero, List.set_cons_succ]
                    refine wpAnyH_take (i := 26) (oi := { dst := some 6, op := Op.assign (Operand.tmp 85), type := 4, pos := _, after := #[{ on := 25, ground := Ground.data }, { on := 20, ground := Ground.chain }, { on := 0, ground := Ground.phase }, { on := 1, ground := Ground.phase }, { on := 2, ground := Ground.phase }, { on := 3, ground := Ground.phase }, { on := 4, ground := Ground.phase }, { on := 5, ground := Ground.phase }, { on := 6, ground := Ground.phase }, { on := 7, ground := Ground.phase }, { on := 8, ground := Ground.phase }, { on := 9, ground := Ground.phase }, { on := 10, ground := Ground.phase }, { on := 11, ground := Ground.phase }, { on := 12, ground := Ground.phase }, { on := 13, ground := Ground.phase }, { on := 14, ground := Ground.phase }, { on := 15, ground := Ground.phase }, { on := 16, ground := Ground.phase }, { on := 17, ground := Ground.phase }, { on := 18, ground := Ground.phase }, { on := 19, ground := Ground.phase }, { on := 20, ground := Ground.phase }, { on := 21, ground := Ground.phase }, { on := 22, ground := Ground.phase }, { on := 23, ground := Ground.phase }, { on := 24, ground := Ground.phase }, { on := 25, ground := Ground.phase }], guard := none }) (v := .bool true) rfl (by kernel_rfl) (by kernel_rfl) (by kernel_rfl) (fun _ _ _ h => h) (Or.inl ⟨by rfl, ?_⟩) hHeld ?_
                    · intro u hu
                      go_simp
                    try simp only [Act.put, List.setIfInBounds_toArray, List.set_cons_zero, List.set_cons_succ]
                    refine wpAnyH_done (by kernel_rfl) ?_ _
                    have B9 := bnext B8 hHeld (Nat.le_refl _)
                    go_wp2_with fail
                    go_roundw
                    case rel => exact ⟨i + 1, by omega, by go_num, by rw [hst'.out, hw.out, hm]; rfl, B9⟩
                    case measure => simp [intOf]; omega
                  | true =>
                    refine wpAnyH_take (i := 0) (oi := { dst := some 60, op := Op.move (Operand.tmp 0), type := 25, pos := _, after := #[], guard := none }) (v := .pointer (some ⟨g, 0, none⟩)) rfl (by kernel_rfl) (by kernel_rfl) (by kernel_rfl) (fun _ _ _ h => h) (Or.inl ⟨by rfl, ?_⟩) hHeld ?_
                    · intro u hu
                      go_simp
                    try simp only [Act.put, List.setIfInBounds_toArray, List.set_cons_zero, List.set_cons_succ]
                    refine wpAnyH_take (i := 1) (oi := { dst := some 61, op := Op.nilCheck (Operand.tmp 60), type := 0, pos := _, after := #[{ on := 0, ground := Ground.data }], guard := none }) (v := .pointer (some ⟨g, 0, none⟩)) rfl (by kernel_rfl) (by kernel_rfl) (by kernel_rfl) (fun _ _ _ h => h) (Or.inl ⟨by rfl, ?_⟩) hHeld ?_
                    · intro u hu
                      go_simp
                    try simp only [Act.put, List.setIfInBounds_toArray, List.set_cons_zero, List.set_cons_succ]
                    refine wpAnyH_take (i := 2) (oi := { dst := some 62, op := Op.fieldAddr 57 (Operand.tmp 61) 1, type := 0, pos := _, after := #[{ on := 1, ground := Ground.data }], guard := none }) (v := .pointer (some ⟨g, 1, none⟩)) rfl (by kernel_rfl) (by kernel_rfl) (by kernel_rfl) (fun _ _ _ h => h) (Or.inl ⟨by rfl, ?_⟩) hHeld ?_
                    · intro u hu
                      go_simp
                    try simp only [Act.put, List.setIfInBounds_toArray, List.set_cons_zero, List.set_cons_succ]
                    refine wpAnyH_take (i := 3) (oi := { dst := some 63, op := Op.load 22 (Operand.tmp 62), type := 22, pos := _, after := #[{ on := 2, ground := Ground.data }], guard := none }) (v := .slice (some ⟨b, 0, none⟩) L.length c) rfl (by kernel_rfl) (by kernel_rfl) (by kernel_rfl) (fun _ _ _ h => h) (Or.inl ⟨by rfl, ?_⟩) hHeld ?_
                    · intro u hu
                      have x1 := (Stp.of_below hu (fun _ => False)).cell z1 id; go_simp
                    try simp only [Act.put, List.setIfInBounds_toArray, List.set_cons_zero, List.set_cons_succ]
                    refine wpAnyH_take (i := 4) (oi := { dst := some 64, op := Op.move (Operand.tmp 8), type := 3, pos := _, after := #[], guard := none }) (v := .int .i64 (i : Int)) rfl (by kernel_rfl) (by kernel_rfl) (by kernel_rfl) (fun _ _ _ h => h) (Or.inl ⟨by rfl, ?_⟩) hHeld ?_
                    · intro u hu
                      go_simp
                    try simp only [Act.put, List.setIfInBounds_toArray, List.set_cons_zero, List.set_cons_succ]
                    refine wpAnyH_take (i := 5) (oi := { dst := some 65, op := Op.indexAddr 22 (Operand.tmp 63) (Operand.tmp 64), type := 0, pos := _, after := #[{ on := 3, ground := Ground.data }, { on := 4, ground := Ground.data }], guard := none }) (v := .pointer (some ⟨b, i * 9, none⟩)) rfl (by kernel_rfl) (by kernel_rfl) (by kernel_rfl) (fun _ _ _ h => h) (Or.inl ⟨by rfl, ?_⟩) hHeld ?_
                    · intro u hu
                      go_simp
                    try simp only [Act.put, List.setIfInBounds_toArray, List.set_cons_zero, List.set_cons_succ]
                    refine wpAnyH_take (i := 6) (oi := { dst := some 66, op := Op.fieldAddr 54 (Operand.tmp 65) 8, type := 0, pos := _, after := #[{ on := 5, ground := Ground.data }], guard := none }) (v := .pointer (some ⟨b, i * 9 + 8, none⟩)) rfl (by kernel_rfl) (by kernel_rfl) (by kernel_rfl) (fun _ _ _ h => h) (Or.inl ⟨by rfl, ?_⟩) hHeld ?_
                    · intro u hu
                      go_simp
                    try simp only [Act.put, List.setIfInBounds_toArray, List.set_cons_zero, List.set_cons_succ]
                    refine wpAnyH_take (i := 7) (oi := { dst := some 67, op := Op.load 4 (Operand.tmp 66), type := 4, pos := _, after := #[{ on := 6, ground := Ground.data }], guard := none }) (v := .bool false) rfl (by kernel_rfl) (by kernel_rfl) (by kernel_rfl) (fun _ _ _ h => h) (Or.inl ⟨by rfl, ?_⟩) hHeld ?_
                    · intro u hu
                      have x1 := (Stp.of_below hu (fun _ => False)).cell (Pe.at9 hrt).2.2.2.2.2.2.2.2 id; rw [hw.out] at x1; go_simp
                    try simp only [Act.put, List.setIfInBounds_toArray, List.set_cons_zero, List.set_cons_succ]
                    refine wpAnyH_take (i := 8) (oi := { dst := some 68, op := Op.move (Operand.tmp 67), type := 4, pos := _, after := #[{ on := 7, ground := Ground.data }], guard := none }) (v := .bool false) rfl (by kernel_rfl) (by kernel_rfl) (by kernel_rfl) (fun _ _ _ h => h) (Or.inl ⟨by rfl, ?_⟩) hHeld ?_
                    · intro u hu
                      go_simp
                    try simp only [Act.put, List.setIfInBounds_toArray, List.set_cons_zero, List.set_cons_succ]
                    refine wpAnyH_take (i := 9) (oi := { dst := some 69, op := Op.move (Operand.tmp 0), type := 25, pos := _, after := #[{ on := 8, ground := Ground.guard }], guard := some (8, false) }) (v := .pointer (some ⟨g, 0, none⟩)) rfl (by kernel_rfl) (by kernel_rfl) (by kernel_rfl) (fun _ _ _ h => h) (Or.inl ⟨by rfl, ?_⟩) hHeld ?_
                    · intro u hu
                      go_simp
                    try simp only [Act.put, List.setIfInBounds_toArray, List.set_cons_zero, List.set_cons_succ]
                    refine wpAnyH_take (i := 10) (oi := { dst := some 70, op := Op.nilCheck (Operand.tmp 69), type := 0, pos := _, after := #[{ on := 9, ground := Ground.data }, { on := 8, ground := Ground.guard }], guard := some (8, false) }) (v := .pointer (some ⟨g, 0, none⟩)) rfl (by kernel_rfl) (by kernel_rfl) (by kernel_rfl) (fun _ _ _ h => h) (Or.inl ⟨by rfl, ?_⟩) hHeld ?_
                    · intro u hu
                      go_simp
                    try simp only [Act.put, List.setIfInBounds_toArray, List.set_cons_zero, List.set_cons_succ]
                    refine wpAnyH_take (i := 11) (oi := { dst := some 71, op := Op.fieldAddr 57 (Operand.tmp 70) 1, type := 0, pos := _, after := #[{ on := 10, ground := Ground.data }, { on := 8, ground := Ground.guard }], guard := some (8, false) }) (v := .pointer (some ⟨g, 1, none⟩)) rfl (by kernel_rfl) (by kernel_rfl) (by kernel_rfl) (fun _ _ _ h => h) (Or.inl ⟨by rfl, ?_⟩) hHeld ?_
                    · intro u hu
                      go_simp
                    try simp only [Act.put, List.setIfInBounds_toArray, List.set_cons_zero, List.set_cons_succ]
                    refine wpAnyH_take (i := 12) (oi := { dst := some 72, op := Op.load 22 (Operand.tmp 71), type := 22, pos := _, after := #[{ on := 11, ground := Ground.data }, { on := 8, ground := Ground.guard }], guard := some (8, false) }) (v := .slice (some ⟨b, 0, none⟩) L.length c) rfl (by kernel_rfl) (by kernel_rfl) (by kernel_rfl) (fun _ _ _ h => h) (Or.inl ⟨by rfl, ?_⟩) hHeld ?_
                    · intro u hu
                      have x1 := (Stp.of_below hu (fun _ => False)).cell z1 id; go_simp
                    try simp only [Act.put, List.setIfInBounds_toArray, List.set_cons_zero, List.set_cons_succ]
                    refine wpAnyH_take (i := 13) (oi := { dst := some 73, op := Op.move (Operand.tmp 8), type := 3, pos := _, after := #[{ on := 8, ground := Ground.guard }], guard := some (8, false) }) (v := .int .i64 (i : Int)) rfl (by kernel_rfl) (by kernel_rfl) (by kernel_rfl) (fun _ _ _ h => h) (Or.inl ⟨by rfl, ?_⟩) hHeld ?_
                    · intro u hu
                      go_simp
                    try simp only [Act.put, List.setIfInBounds_toArray, List.set_cons_zero, List.set_cons_succ]
                    refine wpAnyH_take (i := 14) (oi := { dst := some 74, op := Op.indexAddr 22 (Operand.tmp 72) (Operand.tmp 73), type := 0, pos := _, after := #[{ on := 12, ground := Ground.data }, { on := 13, ground := Ground.data }, { on := 8, ground := Ground.guard }], guard := some (8, false) }) (v := .pointer (some ⟨b, i * 9, none⟩)) rfl (by kernel_rfl) (by kernel_rfl) (by kernel_rfl) (fun _ _ _ h => h) (Or.inl ⟨by rfl, ?_⟩) hHeld ?_
                    · intro u hu
                      go_simp
                    try simp only [Act.put, List.setIfInBounds_toArray, List.set_cons_zero, List.set_cons_succ]
                    refine wpAnyH_take (i := 15) (oi := { dst := some 75, op := Op.load 54 (Operand.tmp 74), type := 54, pos := _, after := #[{ on := 14, ground := Ground.data }, { on := 8, ground := Ground.guard }], guard := some (8, false) }) (v := .agg t.cs.toArray) rfl (by kernel_rfl) (by kernel_rfl) (by kernel_rfl) (fun _ _ _ h => h)
                      (yields_E (by rfl) _ (by rfl) b (i * 9) (by rfl) t (fun u hu => (Stp.of_below hu (fun _ => False)).range hrt id)) hHeld ?_
                    try simp only [Act.put, List.setIfInBounds_toArray, List.set_cons_zero, List.set_cons_succ]
                    refine wpAnyH_take (i := 16) (oi := { dst := some 76, op := Op.load 54 (Operand.tmp 5), type := 54, pos := _, after := #[{ on := 8, ground := Ground.guard }], guard := some (8, false) }) (v := .agg (p.cs d ⟨na, p.needs.length, nc⟩).toArray) rfl (by kernel_rfl) (by kernel_rfl) (by kernel_rfl) (fun _ _ _ h => h)
                      (yields_P (by rfl) _ (by rfl) g5 (by rfl) p d ⟨na, p.needs.length, nc⟩ (fun u hu => r8.later hu)) hHeld ?_
                    try simp only [Act.put, List.setIfInBounds_toArray, List.set_cons_zero, List.set_cons_succ]
                    refine wpAnyH_ready (rs := [17]) (by kernel_rfl) (by simp) ?_
                    refine (AllReadyH.cons (o := { dst := some 77, op := Op.call { callee := Callee.value (Operand.func 67), args := #[Operand.tmp 75, Operand.tmp 76], argTypes := #[54, 54] }, type := 4, pos := _, after := #[{ on := 15, ground := Ground.data }, { on := 16, ground := Ground.data }, { on := 8, ground := Ground.chain }, { on := 8, ground := Ground.guard }], guard := some (8, false) }) rfl (fun K hK => ?_) AllReadyH.nil)
                    go_simp
                    refine (hM _).mono ?_
                    rw [hm]
                    rintro e w7 ⟨rfl, q7⟩
                    try go_wp2_with fail
                    refine hK.out _ _ (bnext (by assumption) q7 (Nat.le_refl _)) (fun hHeld => ?_)
                    clear hK K
                    try simp only [Act.put, List.setIfInBounds_toArray, List.set_cons_zero, List.set_cons_succ]
                    refine wpAnyH_take (i := 18) (oi := { dst := some 78, op := Op.unOp UnOp.not 4 (Operand.tmp 77), type := 4, pos := _, after := #[{ on := 17, ground := Ground.data }, { on := 8, ground := Ground.guard }], guard := some (8, false) }) (v := .bool false) rfl (by kernel_rfl) (by kernel_rfl) (by kernel_rfl) (fun _ _ _ h => h) (Or.inl ⟨by rfl, ?_⟩) hHeld ?_
                    · intro u hu
                      go_simp
                    try simp only [Act.put, List.setIfInBounds_toArray, List.set_cons_zero, List.set_cons_succ]
                    refine wpAnyH_take (i := 19) (oi := { dst := some 79, op := Op.pick (Operand.tmp 68) (Operand.const (Value.bool true)) (Operand.tmp 78), type := 4, pos := _, after := #[{ on := 8, ground := Ground.data }, { on := 18, ground := Ground.data }], guard := none }) (v := .bool false) rfl (by kernel_rfl) (by kernel_rfl) (by kernel_rfl) (fun _ _ _ h => h) (Or.inl ⟨by rfl, ?_⟩) hHeld ?_
                    · intro u hu
                      go_simp
                    try simp only [Act.put, List.setIfInBounds_toArray, List.set_cons_zero, List.set_cons_succ]
                    refine wpAnyH_take (i := 20) (oi := { dst := some 80, op := Op.move (Operand.tmp 79), type := 4, pos := _, after := #[{ on := 19, ground := Ground.data }, { on := 17, ground := Ground.chain }], guard := none }) (v := .bool false) rfl (by kernel_rfl) (by kernel_rfl) (by kernel_rfl) (fun _ _ _ h => h) (Or.inl ⟨by rfl, ?_⟩) hHeld ?_
                    · intro u hu
                      go_simp
                    try simp only [Act.put, List.setIfInBounds_toArray, List.set_cons_zero, List.set_cons_succ]
                    refine wpAnyH_take (i := 21) (oi := { dst := some 81, op := Op.move (Operand.tmp 3), type := 83, pos := _, after := #[{ on := 20, ground := Ground.guard }], guard := some (20, false) }) (v := .slice (some ⟨r, 0, none⟩) L.length L.length) rfl (by kernel_rfl) (by kernel_rfl) (by kernel_rfl) (fun _ _ _ h => h) (Or.inl ⟨by rfl, ?_⟩) hHeld ?_
                    · intro u hu
                      go_simp
                    try simp only [Act.put, List.setIfInBounds_toArray, List.set_cons_zero, List.set_cons_succ]
                    refine wpAnyH_take (i := 22) (oi := { dst := some 82, op := Op.move (Operand.tmp 8), type := 3, pos := _, after := #[{ on := 20, ground := Ground.guard }], guard := some (20, false) }) (v := .int .i64 (i : Int)) rfl (by kernel_rfl) (by kernel_rfl) (by kernel_rfl) (fun _ _ _ h => h) (Or.inl ⟨by rfl, ?_⟩) hHeld ?_
                    · intro u hu
                      go_simp
                    try simp only [Act.put, List.setIfInBounds_toArray, List.set_cons_zero, List.set_cons_succ]
                    refine wpAnyH_take (i := 23) (oi := { dst := some 83, op := Op.indexAddr 83 (Operand.tmp 81) (Operand.tmp 82), type := 0, pos := _, after := #[{ on := 21, ground := Ground.data }, { on := 22, ground := Ground.data }, { on := 20, ground := Ground.guard }], guard := some (20, false) }) (v := .pointer (some ⟨r, i, none⟩)) rfl (by kernel_rfl) (by kernel_rfl) (by kernel_rfl) (fun _ _ _ h => h) (Or.inl ⟨by rfl, ?_⟩) hHeld ?_
                    · intro u hu
                      go_simp
                    try simp only [Act.put, List.setIfInBounds_toArray, List.set_cons_zero, List.set_cons_succ]
                    refine wpAnyH_take (i := 24) (oi := { dst := some 84, op := Op.load 4 (Operand.tmp 83), type := 4, pos := _, after := #[{ on := 23, ground := Ground.data }, { on := 20, ground := Ground.guard }], guard := some (20, false) }) (v := .bool y) rfl (by kernel_rfl) (by kernel_rfl) (by kernel_rfl) (fun _ _ _ h => h) (Or.inl ⟨by rfl, ?_⟩) hHeld ?_
                    · intro u hu
                      have x1 := (Stp.of_below hu (fun _ => False)).cell cy id; go_simp
                    try simp only [Act.put, List.setIfInBounds_toArray, List.set_cons_zero, List.set_cons_succ]
                    refine wpAnyH_take (i := 25) (oi := { dst := some 85, op := Op.pick (Operand.tmp 80) (Operand.const (Value.bool true)) (Operand.tmp 84), type := 4, pos := _, after := #[{ on := 20, ground := Ground.data }, { on := 24, ground := Ground.data }], guard := none }) (v := .bool y) rfl (by kernel_rfl) (by kernel_rfl) (by kernel_rfl) (fun _ _ _ h => h) (Or.inl ⟨by rfl, ?_⟩) hHeld ?_
                    · intro u hu
                      go_simp
                    try simp only [Act.put, List.setIfInBounds_toArray, List.set_cons_zero, List.set_cons_succ]
                    refine wpAnyH_take (i := 26) (oi := { dst := some 6, op := Op.assign (Operand.tmp 85), type := 4, pos := _, after := #[{ on := 25, ground := Ground.data }, { on := 20, ground := Ground.chain }, { on := 0, ground := Ground.phase }, { on := 1, ground := Ground.phase }, { on := 2, ground := Ground.phase }, { on := 3, ground := Ground.phase }, { on := 4, ground := Ground.phase }, { on := 5, ground := Ground.phase }, { on := 6, ground := Ground.phase }, { on := 7, ground := Ground.phase }, { on := 8, ground := Ground.phase }, { on := 9, ground := Ground.phase }, { on := 10, ground := Ground.phase }, { on := 11, ground := Ground.phase }, { on := 12, ground := Ground.phase }, { on := 13, ground := Ground.phase }, { on := 14, ground := Ground.phase }, { on := 15, ground := Ground.phase }, { on := 16, ground := Ground.phase }, { on := 17, ground := Ground.phase }, { on := 18, ground := Ground.phase }, { on := 19, ground := Ground.phase }, { on := 20, ground := Ground.phase }, { on := 21, ground := Ground.phase }, { on := 22, ground := Ground.phase }, { on := 23, ground := Ground.phase }, { on := 24, ground := Ground.phase }, { on := 25, ground := Ground.phase }], guard := none }) (v := .bool y) rfl (by kernel_rfl) (by kernel_rfl) (by kernel_rfl) (fun _ _ _ h => h) (Or.inl ⟨by rfl, ?_⟩) hHeld ?_
                    · intro u hu
                      go_simp
                    try simp only [Act.put, List.setIfInBounds_toArray, List.set_cons_zero, List.set_cons_succ]
                    refine wpAnyH_done (by kernel_rfl) ?_ _
                    have B9 := bnext B8 hHeld (Nat.le_refl _)
                    go_wp2_with fail
                    go_roundw
                    case rel => exact ⟨i + 1, by omega, by go_num, by rw [hst'.out, hw.out, hm, hy.out]; rfl, B9⟩
                    case measure => simp [intOf]; omega
              | false =>
                have hN : Hid (rbS Z.l (rb Z.l k) p = false) := rbI_no hbb.out
                go_wp2_with fail
                go_meet
                exact ⟨B8, by rw [hN.out]⟩
            · have ei : i = k := by omega
              subst ei
              have hN : Hid (rbS Z.l (rb Z.l i) p = bb) := (by rw [← hbb.out, rbI_all (by rw [← hlen'.out]; exact hk)] : rbS Z.l (rb Z.l i) p = bb)
              have q6 : ¬ (i : Int) < (i : Int) := by omega
              go_wp2_with fail
              go_meet
              exact ⟨B8, by rw [hN.out]⟩
        case rest =>
          obtain ⟨Bx, rfl⟩ := hcut
          have cRx := cR6.later Bx
          have lk : (ryB Z.l k).length = Z.l.length := ryB_len (by rw [← hlen'.out]; exact hk)
          have lk' : Hid ((ryB Z.l k).length = Z.l.length) := lk
          clear lk
          obtain ⟨y0, cy⟩ : ∃ y0, wc.cell? ⟨r, k, none⟩ = some (.bool y0) := ⟨(ryB Z.l k).getD k false, cRx.cell k _ (by unfold bV; rw [List.getElem?_map, List.getElem?_eq_getElem (by rw [lk'.out, ← hlen'.out]; exact hkl), List.getD_eq_getElem?_getD, List.getElem?_eq_getElem (by rw [lk'.out, ← hlen'.out]; exact hkl)]; rfl)⟩
          have fy := cRx.frozen k
          have cN : Cs (wc.setCell ⟨r, k, none⟩ (.bool (rbS Z.l (rb Z.l k) p))) r (bV (ryB Z.l (k + 1))) := by
            have := cRx.set k (.bool (rbS Z.l (rb Z.l k) p)) rfl
            have e : (bV (ryB Z.l k)).set k (.bool (rbS Z.l (rb Z.l k) p)) = bV (ryB Z.l (k + 1)) := by unfold bV; rw [← List.map_set, ryB_set hget]
            rw [e] at this; exact this
          have sN : Stp (fun x => x = r) wc (wc.setCell ⟨r, k, none⟩ (.bool (rbS Z.l (rb Z.l k) p))) := (Stp.refl (fun x => x = r) wc).setCell (p := ⟨r, k, none⟩) (.inl rfl) _
          have BN : Below w.heap.size w (wc.setCell ⟨r, k, none⟩ (.bool (rbS Z.l (rb Z.l k) p))) := ((Stp.of_below (bnext (bnext B B6 (Nat.le_refl _)) Bx (Nat.le_refl _)) (fun _ => False)).next sN (fun x e => .inr (by omega))).below (Nat.le_refl _) (fun x e => e.elim)
          clear cRx sN Bx cR6 r6 H6 hr6
          go_wp2_with fail
          go_roundw
          case rel => exact ⟨k + 1, by omega, by go_num, cN, BN⟩
          case measure => simp [intOf]; omega
    · have e : k = L.length := by omega
      subst e
      have a6 : ¬ (L.length : Int) < (L.length : Int) := by omega
      go_wp2_with fail
      go_returns
      exact ⟨r, rfl, cR, a1, B⟩
end Go.Proofs.YtdfifneikmlmoaaGreat
