/-
  What Needed of the document's graph returns: no statement is proved here.
-/
import Derived.Test.YtigchhogclofiaaGreatRgL
import Derived.Test.YtigchhogclofiaaGreatRgK
namespace Go.Proofs.YtigchhogclofiaaGreat
open Go.ChangeShapes Go.WideShapes Go.ChangeAt Go.RowKit
set_option linter.unusedVariables false
set_option linter.unusedSimpArgs false

/-- The truths lie in block r. -/
structure NdI (w wr : World) (r : Nat) (l : List Pt) (f : Nat → Pt → Bool) : Prop where
  ex : ∃ bs, Bw bs l f ∧ Cs wr r (bV bs)
  b : Below w.heap.size w wr
theorem NdI.later {w wr w' : World} {r : Nat} {l : List Pt} {f : Nat → Pt → Bool} (h : NdI w wr r l f) (k : Below wr.heap.size wr w') : NdI w w' r l f := by
  obtain ⟨⟨bs, h1, h2⟩, h3⟩ := h
  exact ⟨⟨bs, h1, h2.later k⟩, bnext h3 k (Nat.le_refl _)⟩
theorem NdI.cell {w wr : World} {r : Nat} {l : List Pt} {f : Nat → Pt → Bool} (h : NdI w wr r l f) {j : Nat} {p : Pt} (hj : l[j]? = some p) : wr.cell? ⟨r, j, none⟩ = some (.bool (f j p)) := by
  obtain ⟨⟨bs, h1, h2⟩, h3⟩ := h
  exact h2.cell j _ (by unfold bV; rw [List.getElem?_map, h1.get j p hj]; rfl)
theorem NdI.froz {w wr : World} {r : Nat} {l : List Pt} {f : Nat → Pt → Bool} (h : NdI w wr r l f) (j : Nat) : wr.frozen? ⟨r, j, none⟩ = false := by
  obtain ⟨⟨bs, h1, h2⟩, h3⟩ := h
  exact h2.frozen j
theorem NdI.lt {w wr : World} {r : Nat} {l : List Pt} {f : Nat → Pt → Bool} (h : NdI w wr r l f) : r < wr.heap.size := by
  obtain ⟨⟨bs, h1, h2⟩, h3⟩ := h
  exact h2.lt
theorem NdI.to {w wr : World} {r : Nat} {l : List Pt} {f f' : Nat → Pt → Bool} (h : NdI w wr r l f) (k : ∀ bs, Bw bs l f → Bw bs l f') : NdI w wr r l f' := by
  obtain ⟨⟨bs, h1, h2⟩, h3⟩ := h
  exact ⟨⟨bs, k bs h1, h2⟩, h3⟩
theorem NdI.set {w wr : World} {r : Nat} {l : List Pt} {f f' : Nat → Pt → Bool} (h : NdI w wr r l f) (j : Nat) (hr : w.heap.size ≤ r) (k : ∀ bs, Bw bs l f → Bw (bs.set j true) l f') : NdI w (wr.setCell ⟨r, j, none⟩ (.bool true)) r l f' ∧ Stp (fun x => x = r) wr (wr.setCell ⟨r, j, none⟩ (.bool true)) := by
  obtain ⟨⟨bs, h1, h2⟩, h3⟩ := h
  have s : Stp (fun x => x = r) wr (wr.setCell ⟨r, j, none⟩ (.bool true)) := (Stp.refl (fun x => x = r) wr).setCell (p := ⟨r, j, none⟩) (.inl rfl) _
  have e : (bV bs).set j (.bool true) = bV (bs.set j true) := by unfold bV; rw [List.map_set]
  refine ⟨⟨⟨bs.set j true, k bs h1, by rw [← e]; exact h2.set j _ rfl⟩, ((Stp.of_below h3 (fun _ => False)).next s (fun x e => .inr (by omega))).below (Nat.le_refl _) (fun x e => e.elim)⟩, s⟩
theorem NdI.step {w wr w' : World} {r : Nat} {l : List Pt} {f : Nat → Pt → Bool} {F : Nat → Prop} (h : NdI w wr r l f) (k : Stp F wr w') (hr : ¬ F r) (hb : Below w.heap.size w w') : NdI w w' r l f := by
  obtain ⟨⟨bs, h1, h2⟩, h3⟩ := h
  exact ⟨⟨bs, h1, h2.step k hr⟩, hb⟩
set_option maxRecDepth 100000 in
set_option maxHeartbeats 8000000 in
theorem rneeded_any {w : World} {g : Nat} {Z : GZ} {a : Option Addr} {c : Nat} {L : List Pe} {R : Nat → Prop} (H : Rf w g Z a c L R) {sv : Sv} {is : List Int} (hs : InsS w sv is) (hsl : is.length ≤ 100000) :
    Calls Tryz.prog 42 #[.pointer (some ⟨g, 0, none⟩), .slice sv.a sv.n sv.c] w fun e w' => ∃ v, e = .returned v ∧ OwV w' v (ids (nd is Z.l)) ∧ New w.heap.size v ∧ Below w.heap.size w w' := by
  have t0 : True := trivial
  have hfew := H.few
  have hcap : L.length ≤ maxLen := by obtain ⟨_, _, _, h, _⟩ := H.row.shape; exact h
  have hlen' : Hid (L.length = Z.l.length) := H.len
  obtain ⟨z0, z1⟩ := H.cells
  have hn := hs.i.len
  obtain ⟨sa, sn, sc⟩ := sv
  simp only at hn
  subst hn
  have hcapl : is.length ≤ maxLen := Nat.le_trans hs.i.le hs.i.cap
  go_enter Tryz.func42, Tryz.ntmps42
  go_wp2_with (first
    | (clear t0; refine at_mkb _ (by rfl) (by rfl) L.length (by rfl) (by omega) ?_; intro r w1 a1 a2 r1 b1))
  have i0 : NdI w w1 r Z.l (n1 is 0) := ⟨⟨_, n1_zero is Z.l, by rw [← hlen'.out]; exact r1⟩, b1⟩
  clear r1 z0 z1
  go_loopw [6] (fun v wr => ∃ i : Nat, i ≤ is.length ∧ v = .int .i64 (i : Int) ∧ NdI w wr r Z.l (n1 is i)) (fun v _ => is.length - (intOf v).toNat)
  case atStart => exact ⟨0, Nat.zero_le _, rfl, i0⟩
  case round =>
    clear i0
    obtain ⟨i, hi, rfl, I⟩ := hrel
    have a8 : (0 : Int) ≤ (i : Int) := by omega
    by_cases hil : i < is.length
    · have a9 : (i : Int) < (is.length : Int) := by omega
      obtain ⟨sb, so, e1, hcell⟩ := (hs.later I.b).i.cell (by show 0 < is.length; omega)
      simp only at e1
      subst e1
      have ck := hcell i hil
      have hx : is[i]? = some (is.getD i 0) := by rw [List.getElem?_eq_getElem hil, List.getD_eq_getElem?_getD, List.getElem?_eq_getElem hil]; rfl
      generalize is.getD i 0 = x at *
      have hF := find_any (H.later I.b) x
      clear hcell
      rcases fdx_cases Z.l x with ⟨f1, f2⟩ | ⟨j, p, f1, f2, f3, f4⟩
      · have I2 := I.to (fun bs h => n1_no h hx f2)
        rw [f1] at hF
        clear f1 f2
        go_wp2_with (first
          | (go_at_call 57; refine hF.mono ?_; rintro e w2 ⟨rfl, rfl⟩))
        go_roundw
        case rel => exact ⟨i + 1, by omega, by go_num, I2⟩
        case measure => simp [intOf]; try omega
      · obtain ⟨I2, _⟩ := I.set j a1 (fun bs h => n1_yes H.ok.srt h hx f2 (fnd_mem f3).2)
        have cy := I.cell f2
        have fy := I.froz j
        have q1 : (0 : Int) ≤ (j : Int) := by omega
        have q2 : (j : Int) < (L.length : Int) := by rw [hlen'.out]; omega
        rw [f1] at hF
        clear f1 f2 f3 f4
        go_wp2_with (first
          | (go_at_call 57; refine hF.mono ?_; rintro e w2 ⟨rfl, rfl⟩))
        go_roundw
        case rel => exact ⟨i + 1, by omega, by go_num, I2⟩
        case measure => simp [intOf]; try omega
    · have a9 : ¬ (i : Int) < (is.length : Int) := by omega
      have ei : i = is.length := by omega
      rw [ei] at I
      have I2 : NdI w wr r Z.l (n2 is Z.l L.length) := I.to (fun bs h => by rw [hlen'.out]; exact n2_start h)
      clear I ei hi
      have H4 := H.later I2.b
      obtain ⟨z0, z1⟩ := H4.cells
      go_wp2_with fail
      clear z0 z1 H4
      go_loopw [8] (fun v wr => ∃ m : Nat, m ≤ L.length ∧ v = .int .i64 ((m : Int) - 1) ∧ NdI w wr r Z.l (n2 is Z.l m)) (fun v _ => ((intOf v) + 1).toNat)
      case atStart => exact ⟨L.length, Nat.le_refl _, by go_num, I2⟩
      case round =>
        clear I2
        obtain ⟨m, hm, rfl, I⟩ := hrel
        cases m with
        | zero =>
          have e8 : (((0 : Nat) : Int) - 1) = -1 := by omega
          rw [e8]
          go_wp2_with fail
          have J0 := (BuI.made w wr I.b)
          have N0 := I.later ((Below.refl _ wr).alloc (Nat.le_refl _) (.cells #[] 3))
          have ap0 : ∀ x, (Value.slice (some ⟨wr.heap.size, 0, none⟩) 0 0).ownBlock = some x → x ≠ r := fun x hx e => by have := ob_eq hx; have := I.lt; omega
          clear I
          go_loopw [13, 14] (fun u v wr => ∃ (k : Nat) (sv : Sv) (out : List Int), k ≤ L.length ∧ u = .slice sv.a sv.n sv.c ∧ v = .int .i64 (k : Int) ∧ out ++ ids (nd is (Z.l.drop k)) = ids (nd is Z.l) ∧ out.length ≤ k ∧ BuI w wr (.slice sv.a sv.n sv.c) out ∧ NdI w wr r Z.l (n2 is Z.l 0) ∧ (∀ x, (Value.slice sv.a sv.n sv.c).ownBlock = some x → x ≠ r)) (fun _ v _ => L.length - (intOf v).toNat)
          case atStart => exact ⟨0, ⟨_, _, _⟩, [], Nat.zero_le _, rfl, rfl, rfl, Nat.le_refl _, J0, N0, ap0⟩
          case round =>
            clear J0 N0 ap0
            obtain ⟨k, sv, out, hk, rfl, rfl, heq, hol, J, I, ap⟩ := hrel
            have H4 := H.later J.b
            obtain ⟨z0, z1⟩ := H4.cells
            have q8 : (0 : Int) ≤ (k : Int) := by omega
            by_cases hkl : k < L.length
            · obtain ⟨b, t, rfl, e2, hr⟩ := H4.row.el k hkl
              obtain ⟨c0, _⟩ := Pe.at9 hr
              have q9 : (k : Int) < (L.length : Int) := by omega
              have cy := I.cell (H4.get e2)
              have e0 : n2 is Z.l 0 k t.p = wnt is (nd is (Z.l.drop (k + 1))) t.p := by unfold n2; rw [Nat.max_eq_right (by omega)]
              rw [e0] at cy
              have hst : Hid (nd is (Z.l.drop k) = if wnt is (nd is (Z.l.drop (k + 1))) t.p then t.p :: nd is (Z.l.drop (k + 1)) else nd is (Z.l.drop (k + 1))) := nd_drop (H4.get e2)
              have heq' : Hid (out ++ ids (nd is (Z.l.drop k)) = ids (nd is Z.l)) := heq
              obtain ⟨y, hy⟩ : ∃ y, Hid (wnt is (nd is (Z.l.drop (k + 1))) t.p = y) := ⟨_, rfl⟩
              rw [hy.out] at cy
              have hbig : out.length + 1 ≤ 1000000 := by omega
              clear hr e0 heq
              cases y with
              | true =>
                have hn2 : (out ++ [t.p.id]) ++ ids (nd is (Z.l.drop (k + 1))) = ids (nd is Z.l) := by
                  rw [← heq'.out, hst.out, hy.out, if_pos rfl]; unfold ids; simp
                have hn2' : Hid ((out ++ [t.p.id]) ++ ids (nd is (Z.l.drop (k + 1))) = ids (nd is Z.l)) := hn2
                clear hn2
                go_wp2_with (first
                  | (at_builtin; refine at_appR elI w.heap.size rfl _ _ (by rfl) (by rfl) (ro_later J.ow ((Below.refl _ wr).alloc (Nat.le_refl _) _)) J.nw (some ⟨wr.heap.size, 0, none⟩) 1 [.int .i64 t.p.id] (by rfl) (by simp) (fun e => by cases e) (fun ad e => by injection e with e; subst e; exact cell_one_new _ _ _) (by simp [Value.oneCell']) hbig (Nat.le_trans J.b.size (by simp)) ?_; intro v' w9 hA; have J9 := J.app ((Below.refl _ wr).alloc (Nat.le_refl _) _) hA; obtain ⟨xa, xn, xc, rfl⟩ := J9.ow.shape
                     have I9 := (I.later ((Below.refl _ wr).alloc (Nat.le_refl _) (.cells #[.int .i64 t.p.id] 3))).step hA.2.2.2.1 (fun e => ap r e rfl) J9.b
                     have ap9 : ∀ x, (Value.slice xa xn xc).ownBlock = some x → x ≠ r := fun x hx e => by
                       have hl := I.lt
                       rcases hA.2.2.1 with h | ⟨h, _⟩
                       · rw [h] at hx; exact ap x hx e
                       · rw [h] at hx; injection hx with hx
                         have : (wr.alloc (.cells #[.int .i64 t.p.id] 3)).heap.size = wr.heap.size + 1 := by simp
                         omega
                     clear hA))
                go_roundw
                case rel => exact ⟨k + 1, ⟨xa, xn, xc⟩, out ++ [t.p.id], by omega, rfl, by go_num, hn2'.out, by simp; omega, J9, I9, ap9⟩
                case measure => simp [intOf]; try omega
              | false =>
                have hn2' : Hid (out ++ ids (nd is (Z.l.drop (k + 1))) = ids (nd is Z.l)) := by
                  show _ = _
                  rw [← heq'.out, hst.out, hy.out, if_neg (by simp)]
                go_wp2_with fail
                go_roundw
                case rel => exact ⟨k + 1, sv, out, by omega, rfl, by go_num, hn2'.out, by omega, J, I, ap⟩
                case measure => simp [intOf]; try omega
            · have q9 : ¬ (k : Int) < (L.length : Int) := by omega
              have e5 : out = ids (nd is Z.l) := by
                rw [← heq, List.drop_eq_nil_of_le (by rw [← hlen'.out]; omega)]; simp [nd, ids]
              have e5' : Hid (out = ids (nd is Z.l)) := e5
              clear e5 heq
              go_wp2_with fail
              go_returns
              exact ⟨_, rfl, by rw [← e5'.out]; exact J.ow, J.nw, J.b⟩
        | succ k =>
          have e8 : (((k + 1 : Nat) : Int) - 1) = (k : Int) := by omega
          rw [e8]
          have H4 := H.later I.b
          obtain ⟨z0, z1⟩ := H4.cells
          have q8 : (0 : Int) ≤ (k : Int) := by omega
          have q9 : (k : Int) < (L.length : Int) := by omega
          obtain ⟨b, t, rfl, e2, hr⟩ := H4.row.el k (by omega)
          have hget := H4.get e2
          have cy := I.cell hget
          have e0 : n2 is Z.l (k + 1) k t.p = wnt is (nd is (Z.l.drop (k + 1))) t.p := by unfold n2; rw [Nat.max_eq_left (by omega)]
          rw [e0] at cy
          obtain ⟨y, hy⟩ : ∃ y, Hid (wnt is (nd is (Z.l.drop (k + 1))) t.p = y) := ⟨_, rfl⟩
          rw [hy.out] at cy
          clear e0 e8
          cases y with
          | false =>
            have I2 := I.to (fun bs h => n2_skip h hget hy.out)
            go_wp2_with fail
            go_roundw
            case rel => exact ⟨k, by omega, by go_num, I2⟩
            case measure => simp [intOf]; try omega
          | true =>
            obtain ⟨l1, l2, m4⟩ := H4.dl e2
            obtain ⟨p, d, na, nn, nc⟩ := t
            have hnn : p.needs.length = nn := m4.is.i.len
            subst hnn
            have t1 : True := trivial
            have t2 : True := trivial
            have t3 : True := trivial
            go_wp2_with (first
              | (clear t1; refine at_getE _ (by rfl) (by rfl) b (k * 9) (by rfl) ⟨p, d, ⟨na, p.needs.length, nc⟩⟩ hr ?_)
              | (clear t2; refine at_newP (by rfl) (by rfl) ?_; intro g5 w5 a3 a4 r5 b5)
              | (clear t3; refine at_putP (by rfl) _ _ (by rfl) g5 (by rfl) p d ⟨na, p.needs.length, nc⟩ (by rfl) _ r5 rfl ?_; intro w6 r6 s6))
            have B6 : Below wr.heap.size wr w6 := ((Stp.of_below b5 (fun _ => False)).next s6 (fun x e => .inr (by omega))).below (Nat.le_refl _) (fun x e => e.elim)
            have I6 := (I.later B6).to (fun bs h => n3_zero (p := p) h)
            have H6 := H4.later B6
            have m6 := m4.later B6
            have hrl : r < wr.heap.size := I.lt
            have hgw : g < w.heap.size := H.cc.lt
            have hg5r : g5 ≠ r := by omega
            have hRr : ∀ x, R x → ¬ x = r := fun x hx e => by have := H.lt x hx; omega
            have fp := H4.ok.ft p (H4.mem e2)
            have dp : d.n = p.data.length := m4.bs.len.symm
            have nds := H4.ok.nds p (H4.mem e2)
            have hnmax : p.needs.length ≤ maxLen := Nat.le_trans m6.is.i.le m6.is.i.cap
            clear r5 b5 s6 H4 z0 z1 m4 hr cy I B6
            go_loopw [10] (fun v wx => ∃ i : Nat, i ≤ p.needs.length ∧ v = .int .i64 (i : Int) ∧ NdI w wx r Z.l (n3 is Z.l k p i) ∧ Stp (fun x => x = r) w6 wx) (fun v _ => p.needs.length - (intOf v).toNat)
            case atStart => exact ⟨0, Nat.zero_le _, rfl, I6, Stp.refl _ _⟩
            case round =>
              clear I6
              obtain ⟨i, hi, rfl, I, st⟩ := hrel
              have p8 : (0 : Int) ≤ (i : Int) := by omega
              have rx := r6.step st hg5r
              have c5 := (Pt.cells rx).2.2.2.2.2.1
              by_cases hil : i < p.needs.length
              · have p9 : (i : Int) < (p.needs.length : Int) := by omega
                have mx := m6.step st hRr
                obtain ⟨nb, no, en, hnc⟩ := mx.is.i.cell (by show 0 < p.needs.length; omega)
                simp only at en
                subst en
                have cn := hnc i hil
                have hx : p.needs[i]? = some (p.needs.getD i 0) := by rw [List.getElem?_eq_getElem hil, List.getD_eq_getElem?_getD, List.getElem?_eq_getElem hil]; rfl
                have hxl := (nds _ (List.mem_of_getElem? hx)).2
                generalize p.needs.getD i 0 = x at *
                have hF := find_any (H6.step st (fun e => by omega) hRr) x
                clear hnc mx rx
                rcases fdx_cases Z.l x with ⟨f1, f2⟩ | ⟨j, q, f1, f2, f3, f4⟩
                · have I2 := I.to (fun bs h => n3_no h hx f2)
                  rw [f1] at hF
                  clear f1 f2
                  go_wp2_with (first
                    | (go_at_call 57; refine hF.mono ?_; rintro e w2 ⟨rfl, rfl⟩))
                  go_roundw
                  case rel => exact ⟨i + 1, by omega, by go_num, I2, st⟩
                  case measure => simp [intOf]; try omega
                · obtain ⟨I2, s2⟩ := I.set j a1 (fun bs h => n3_yes H.ok.srt h hget hx hxl f2 (fnd_mem f3).2)
                  have st2 := st.next s2 (fun x hx => .inl hx)
                  have cy := I.cell f2
                  have fy := I.froz j
                  have p1 : (0 : Int) ≤ (j : Int) := by omega
                  have p2 : (j : Int) < (L.length : Int) := by rw [hlen'.out]; omega
                  rw [f1] at hF
                  clear f1 f2 f3 f4 s2
                  go_wp2_with (first
                    | (go_at_call 57; refine hF.mono ?_; rintro e w2 ⟨rfl, rfl⟩))
                  go_roundw
                  case rel => exact ⟨i + 1, by omega, by go_num, I2, st2⟩
                  case measure => simp [intOf]; try omega
              · have p9 : ¬ (i : Int) < (p.needs.length : Int) := by omega
                have ei : i = p.needs.length := by omega
                rw [ei] at I
                have I4 := I.to (fun bs h => n4_zero h)
                clear I ei hi rx
                go_wp2_with fail
                clear c5 p9 p8
                go_loopw [12] (fun v wx => ∃ i : Nat, i ≤ k ∧ v = .int .i64 (i : Int) ∧ NdI w wx r Z.l (n4 is Z.l k p i) ∧ Stp (fun x => x = r) w6 wx) (fun v _ => k - (intOf v).toNat)
                case atStart => exact ⟨0, Nat.zero_le _, rfl, I4, st⟩
                case round =>
                  clear I4 st
                  obtain ⟨i, hi, rfl, I, st⟩ := hrel
                  have p8 : (0 : Int) ≤ (i : Int) := by omega
                  have r8 := r6.step st hg5r
                  have c8 := (Pt.cells r8).2.2.2.2.2.2.2.2
                  obtain ⟨pw, hpw⟩ : ∃ pw, Hid (p.wr = pw) := ⟨_, rfl⟩
                  rw [hpw.out] at c8
                  by_cases hik : i < k
                  · have p9 : (i : Int) < (k : Int) := by omega
                    have p7 : (i : Int) < (L.length : Int) := by omega
                    cases pw with
                    | true =>
                      have I2 := I.to (fun bs h => n4_end h hget (.inr hpw.out) hi hy.out)
                      go_wp2_with fail
                      go_roundw
                      case rel => exact ⟨k, by omega, by go_num, I2⟩
                      case measure => simp [intOf]; try omega
                    | false =>
                      have H8 := H6.step st (fun e => by omega) hRr
                      obtain ⟨z0, z1⟩ := H8.cells
                      obtain ⟨b', t, eb, e3, hrt⟩ := H8.row.el i (by omega)
                      injection eb with eb; injection eb with eb; subst eb
                      have ft := H8.ok.ft _ (H8.mem e3)
                      have lt : t.d.n = t.p.data.length := (H8.dl e3).2.2.bs.len.symm
                      have hM := fun w => rmeet_any w t ⟨p, d, ⟨na, p.needs.length, nc⟩⟩ ft fp lt dp
                      have gt3 := H8.get e3
                      obtain ⟨wb, hw⟩ : ∃ wb, Hid (t.p.wr = wb) := ⟨_, rfl⟩
                      go_wp2_with fail
                      refine wp_region_held_drew (S := fun u => Below wr.heap.size wr u) (by kernel_rfl) (Below.refl _ _).drew (fun hHeld => ?_)
                      cases wb with
                      | true =>
                        refine wpAnyH_take (i := 0) (oi := { dst := some 89, op := Op.move (Operand.tmp 0), type := 25, pos := _, after := #[], guard := none }) (v := .pointer (some ⟨g, 0, none⟩)) rfl (by kernel_rfl) (by kernel_rfl) (by kernel_rfl) (fun _ _ _ h => h) (Or.inl ⟨by rfl, ?_⟩) hHeld ?_
                        · intro u hu
                          go_simp
                        try simp only [Act.put, List.setIfInBounds_toArray, List.set_cons_zero, List.set_cons_succ]
                        refine wpAnyH_take (i := 1) (oi := { dst := some 90, op := Op.nilCheck (Operand.tmp 89), type := 0, pos := _, after := #[{ on := 0, ground := Ground.data }], guard := none }) (v := .pointer (some ⟨g, 0, none⟩)) rfl (by kernel_rfl) (by kernel_rfl) (by kernel_rfl) (fun _ _ _ h => h) (Or.inl ⟨by rfl, ?_⟩) hHeld ?_
                        · intro u hu
                          go_simp
                        try simp only [Act.put, List.setIfInBounds_toArray, List.set_cons_zero, List.set_cons_succ]
                        refine wpAnyH_take (i := 2) (oi := { dst := some 91, op := Op.fieldAddr 48 (Operand.tmp 90) 1, type := 0, pos := _, after := #[{ on := 1, ground := Ground.data }], guard := none }) (v := .pointer (some ⟨g, 1, none⟩)) rfl (by kernel_rfl) (by kernel_rfl) (by kernel_rfl) (fun _ _ _ h => h) (Or.inl ⟨by rfl, ?_⟩) hHeld ?_
                        · intro u hu
                          go_simp
                        try simp only [Act.put, List.setIfInBounds_toArray, List.set_cons_zero, List.set_cons_succ]
                        refine wpAnyH_take (i := 3) (oi := { dst := some 92, op := Op.load 46 (Operand.tmp 91), type := 46, pos := _, after := #[{ on := 2, ground := Ground.data }], guard := none }) (v := .slice (some ⟨b, 0, none⟩) L.length c) rfl (by kernel_rfl) (by kernel_rfl) (by kernel_rfl) (fun _ _ _ h => h) (Or.inl ⟨by rfl, ?_⟩) hHeld ?_
                        · intro u hu
                          have x1 := (Stp.of_below hu (fun _ => False)).cell z1 id; go_simp
                        try simp only [Act.put, List.setIfInBounds_toArray, List.set_cons_zero, List.set_cons_succ]
                        refine wpAnyH_take (i := 4) (oi := { dst := some 93, op := Op.move (Operand.tmp 12), type := 3, pos := _, after := #[], guard := none }) (v := .int .i64 (i : Int)) rfl (by kernel_rfl) (by kernel_rfl) (by kernel_rfl) (fun _ _ _ h => h) (Or.inl ⟨by rfl, ?_⟩) hHeld ?_
                        · intro u hu
                          go_simp
                        try simp only [Act.put, List.setIfInBounds_toArray, List.set_cons_zero, List.set_cons_succ]
                        refine wpAnyH_take (i := 5) (oi := { dst := some 94, op := Op.indexAddr 46 (Operand.tmp 92) (Operand.tmp 93), type := 0, pos := _, after := #[{ on := 3, ground := Ground.data }, { on := 4, ground := Ground.data }], guard := none }) (v := .pointer (some ⟨b, i * 9, none⟩)) rfl (by kernel_rfl) (by kernel_rfl) (by kernel_rfl) (fun _ _ _ h => h) (Or.inl ⟨by rfl, ?_⟩) hHeld ?_
                        · intro u hu
                          go_simp
                        try simp only [Act.put, List.setIfInBounds_toArray, List.set_cons_zero, List.set_cons_succ]
                        refine wpAnyH_take (i := 6) (oi := { dst := some 95, op := Op.fieldAddr 30 (Operand.tmp 94) 8, type := 0, pos := _, after := #[{ on := 5, ground := Ground.data }], guard := none }) (v := .pointer (some ⟨b, i * 9 + 8, none⟩)) rfl (by kernel_rfl) (by kernel_rfl) (by kernel_rfl) (fun _ _ _ h => h) (Or.inl ⟨by rfl, ?_⟩) hHeld ?_
                        · intro u hu
                          go_simp
                        try simp only [Act.put, List.setIfInBounds_toArray, List.set_cons_zero, List.set_cons_succ]
                        refine wpAnyH_take (i := 7) (oi := { dst := some 96, op := Op.load 4 (Operand.tmp 95), type := 4, pos := _, after := #[{ on := 6, ground := Ground.data }], guard := none }) (v := .bool true) rfl (by kernel_rfl) (by kernel_rfl) (by kernel_rfl) (fun _ _ _ h => h) (Or.inl ⟨by rfl, ?_⟩) hHeld ?_
                        · intro u hu
                          have x1 := (Stp.of_below hu (fun _ => False)).cell (Pe.at9 hrt).2.2.2.2.2.2.2.2 id; rw [hw.out] at x1; go_simp
                        try simp only [Act.put, List.setIfInBounds_toArray, List.set_cons_zero, List.set_cons_succ]
                        refine wpAnyH_take (i := 8) (oi := { dst := some 97, op := Op.unOp UnOp.not 4 (Operand.tmp 96), type := 4, pos := _, after := #[{ on := 7, ground := Ground.data }], guard := none }) (v := .bool false) rfl (by kernel_rfl) (by kernel_rfl) (by kernel_rfl) (fun _ _ _ h => h) (Or.inl ⟨by rfl, ?_⟩) hHeld ?_
                        · intro u hu
                          go_simp
                        try simp only [Act.put, List.setIfInBounds_toArray, List.set_cons_zero, List.set_cons_succ]
                        refine wpAnyH_take (i := 9) (oi := { dst := some 98, op := Op.move (Operand.tmp 97), type := 4, pos := _, after := #[{ on := 8, ground := Ground.data }], guard := none }) (v := .bool false) rfl (by kernel_rfl) (by kernel_rfl) (by kernel_rfl) (fun _ _ _ h => h) (Or.inl ⟨by rfl, ?_⟩) hHeld ?_
                        · intro u hu
                          go_simp
                        try simp only [Act.put, List.setIfInBounds_toArray, List.set_cons_zero, List.set_cons_succ]
                        refine wpAnyH_take (i := 10) (oi := { dst := some 99, op := Op.move (Operand.tmp 0), type := 25, pos := _, after := #[{ on := 9, ground := Ground.guard }], guard := some (9, true) }) (v := undef) rfl (by kernel_rfl) (by kernel_rfl) (by kernel_rfl) (fun _ _ _ h => h)
                          (Or.inr ⟨by rfl, rfl⟩) hHeld ?_
                        try simp only [Act.put, List.setIfInBounds_toArray, List.set_cons_zero, List.set_cons_succ]
                        refine wpAnyH_take (i := 11) (oi := { dst := some 100, op := Op.nilCheck (Operand.tmp 99), type := 0, pos := _, after := #[{ on := 10, ground := Ground.data }, { on := 9, ground := Ground.guard }], guard := some (9, true) }) (v := undef) rfl (by kernel_rfl) (by kernel_rfl) (by kernel_rfl) (fun _ _ _ h => h)
                          (Or.inr ⟨by rfl, rfl⟩) hHeld ?_
                        try simp only [Act.put, List.setIfInBounds_toArray, List.set_cons_zero, List.set_cons_succ]
                        refine wpAnyH_take (i := 12) (oi := { dst := some 101, op := Op.fieldAddr 48 (Operand.tmp 100) 1, type := 0, pos := _, after := #[{ on := 11, ground := Ground.data }, { on := 9, ground := Ground.guard }], guard := some (9, true) }) (v := undef) rfl (by kernel_rfl) (by kernel_rfl) (by kernel_rfl) (fun _ _ _ h => h)
                          (Or.inr ⟨by rfl, rfl⟩) hHeld ?_
                        try simp only [Act.put, List.setIfInBounds_toArray, List.set_cons_zero, List.set_cons_succ]
                        refine wpAnyH_take (i := 13) (oi := { dst := some 102, op := Op.load 46 (Operand.tmp 101), type := 46, pos := _, after := #[{ on := 12, ground := Ground.data }, { on := 9, ground := Ground.guard }], guard := some (9, true) }) (v := undef) rfl (by kernel_rfl) (by kernel_rfl) (by kernel_rfl) (fun _ _ _ h => h)
                          (Or.inr ⟨by rfl, rfl⟩) hHeld ?_
                        try simp only [Act.put, List.setIfInBounds_toArray, List.set_cons_zero, List.set_cons_succ]
                        refine wpAnyH_take (i := 14) (oi := { dst := some 103, op := Op.move (Operand.tmp 12), type := 3, pos := _, after := #[{ on := 9, ground := Ground.guard }], guard := some (9, true) }) (v := undef) rfl (by kernel_rfl) (by kernel_rfl) (by kernel_rfl) (fun _ _ _ h => h)
                          (Or.inr ⟨by rfl, rfl⟩) hHeld ?_
                        try simp only [Act.put, List.setIfInBounds_toArray, List.set_cons_zero, List.set_cons_succ]
                        refine wpAnyH_take (i := 15) (oi := { dst := some 104, op := Op.indexAddr 46 (Operand.tmp 102) (Operand.tmp 103), type := 0, pos := _, after := #[{ on := 13, ground := Ground.data }, { on := 14, ground := Ground.data }, { on := 9, ground := Ground.guard }], guard := some (9, true) }) (v := undef) rfl (by kernel_rfl) (by kernel_rfl) (by kernel_rfl) (fun _ _ _ h => h)
                          (Or.inr ⟨by rfl, rfl⟩) hHeld ?_
                        try simp only [Act.put, List.setIfInBounds_toArray, List.set_cons_zero, List.set_cons_succ]
                        refine wpAnyH_take (i := 16) (oi := { dst := some 105, op := Op.load 30 (Operand.tmp 104), type := 30, pos := _, after := #[{ on := 15, ground := Ground.data }, { on := 9, ground := Ground.guard }], guard := some (9, true) }) (v := undef) rfl (by kernel_rfl) (by kernel_rfl) (by kernel_rfl) (fun _ _ _ h => h)
                          (Or.inr ⟨by rfl, rfl⟩) hHeld ?_
                        try simp only [Act.put, List.setIfInBounds_toArray, List.set_cons_zero, List.set_cons_succ]
                        refine wpAnyH_take (i := 17) (oi := { dst := some 106, op := Op.load 30 (Operand.tmp 9), type := 30, pos := _, after := #[{ on := 9, ground := Ground.guard }], guard := some (9, true) }) (v := undef) rfl (by kernel_rfl) (by kernel_rfl) (by kernel_rfl) (fun _ _ _ h => h)
                          (Or.inr ⟨by rfl, rfl⟩) hHeld ?_
                        try simp only [Act.put, List.setIfInBounds_toArray, List.set_cons_zero, List.set_cons_succ]
                        refine wpAnyH_take (i := 18) (oi := { dst := some 107, op := Op.call { callee := Callee.value (Operand.func 71), args := #[Operand.tmp 105, Operand.tmp 106], argTypes := #[30, 30] }, type := 4, pos := _, after := #[{ on := 16, ground := Ground.data }, { on := 17, ground := Ground.data }, { on := 9, ground := Ground.chain }, { on := 9, ground := Ground.guard }], guard := some (9, true) }) (v := undef) rfl (by kernel_rfl) (by kernel_rfl) (by kernel_rfl) (fun _ _ _ h => h)
                          (Or.inr ⟨by rfl, rfl⟩) hHeld ?_
                        try simp only [Act.put, List.setIfInBounds_toArray, List.set_cons_zero, List.set_cons_succ]
                        refine wpAnyH_take (i := 19) (oi := { dst := some 108, op := Op.pick (Operand.tmp 98) (Operand.tmp 107) (Operand.const (Value.bool false)), type := 4, pos := _, after := #[{ on := 9, ground := Ground.data }, { on := 18, ground := Ground.data }], guard := none }) (v := .bool false) rfl (by kernel_rfl) (by kernel_rfl) (by kernel_rfl) (fun _ _ _ h => h) (Or.inl ⟨by rfl, ?_⟩) hHeld ?_
                        · intro u hu
                          go_simp
                        try simp only [Act.put, List.setIfInBounds_toArray, List.set_cons_zero, List.set_cons_succ]
                        refine wpAnyH_done (by kernel_rfl) ?_ _
                        have I3 := I.to (fun bs h => n4_no h gt3 (by rw [hpw.out, hw.out]; rfl))
                        have I9 := I3.later hHeld
                        have st9 := st.next (Stp.of_below hHeld (fun x => x = r)) (fun x hx => .inl hx)
                        go_wp2_with fail
                        go_roundw
                        case rel => exact ⟨i + 1, by omega, by go_num, I9, st9⟩
                        case measure => simp [intOf]; try omega
                      | false =>
                        cases hm : meet t.p p with
                        | false =>
                          refine wpAnyH_take (i := 0) (oi := { dst := some 89, op := Op.move (Operand.tmp 0), type := 25, pos := _, after := #[], guard := none }) (v := .pointer (some ⟨g, 0, none⟩)) rfl (by kernel_rfl) (by kernel_rfl) (by kernel_rfl) (fun _ _ _ h => h) (Or.inl ⟨by rfl, ?_⟩) hHeld ?_
                          · intro u hu
                            go_simp
                          try simp only [Act.put, List.setIfInBounds_toArray, List.set_cons_zero, List.set_cons_succ]
                          refine wpAnyH_take (i := 1) (oi := { dst := some 90, op := Op.nilCheck (Operand.tmp 89), type := 0, pos := _, after := #[{ on := 0, ground := Ground.data }], guard := none }) (v := .pointer (some ⟨g, 0, none⟩)) rfl (by kernel_rfl) (by kernel_rfl) (by kernel_rfl) (fun _ _ _ h => h) (Or.inl ⟨by rfl, ?_⟩) hHeld ?_
                          · intro u hu
                            go_simp
                          try simp only [Act.put, List.setIfInBounds_toArray, List.set_cons_zero, List.set_cons_succ]
                          refine wpAnyH_take (i := 2) (oi := { dst := some 91, op := Op.fieldAddr 48 (Operand.tmp 90) 1, type := 0, pos := _, after := #[{ on := 1, ground := Ground.data }], guard := none }) (v := .pointer (some ⟨g, 1, none⟩)) rfl (by kernel_rfl) (by kernel_rfl) (by kernel_rfl) (fun _ _ _ h => h) (Or.inl ⟨by rfl, ?_⟩) hHeld ?_
                          · intro u hu
                            go_simp
                          try simp only [Act.put, List.setIfInBounds_toArray, List.set_cons_zero, List.set_cons_succ]
                          refine wpAnyH_take (i := 3) (oi := { dst := some 92, op := Op.load 46 (Operand.tmp 91), type := 46, pos := _, after := #[{ on := 2, ground := Ground.data }], guard := none }) (v := .slice (some ⟨b, 0, none⟩) L.length c) rfl (by kernel_rfl) (by kernel_rfl) (by kernel_rfl) (fun _ _ _ h => h) (Or.inl ⟨by rfl, ?_⟩) hHeld ?_
                          · intro u hu
                            have x1 := (Stp.of_below hu (fun _ => False)).cell z1 id; go_simp
                          try simp only [Act.put, List.setIfInBounds_toArray, List.set_cons_zero, List.set_cons_succ]
                          refine wpAnyH_take (i := 4) (oi := { dst := some 93, op := Op.move (Operand.tmp 12), type := 3, pos := _, after := #[], guard := none }) (v := .int .i64 (i : Int)) rfl (by kernel_rfl) (by kernel_rfl) (by kernel_rfl) (fun _ _ _ h => h) (Or.inl ⟨by rfl, ?_⟩) hHeld ?_
                          · intro u hu
                            go_simp
                          try simp only [Act.put, List.setIfInBounds_toArray, List.set_cons_zero, List.set_cons_succ]
                          refine wpAnyH_take (i := 5) (oi := { dst := some 94, op := Op.indexAddr 46 (Operand.tmp 92) (Operand.tmp 93), type := 0, pos := _, after := #[{ on := 3, ground := Ground.data }, { on := 4, ground := Ground.data }], guard := none }) (v := .pointer (some ⟨b, i * 9, none⟩)) rfl (by kernel_rfl) (by kernel_rfl) (by kernel_rfl) (fun _ _ _ h => h) (Or.inl ⟨by rfl, ?_⟩) hHeld ?_
                          · intro u hu
                            go_simp
                          try simp only [Act.put, List.setIfInBounds_toArray, List.set_cons_zero, List.set_cons_succ]
                          refine wpAnyH_take (i := 6) (oi := { dst := some 95, op := Op.fieldAddr 30 (Operand.tmp 94) 8, type := 0, pos := _, after := #[{ on := 5, ground := Ground.data }], guard := none }) (v := .pointer (some ⟨b, i * 9 + 8, none⟩)) rfl (by kernel_rfl) (by kernel_rfl) (by kernel_rfl) (fun _ _ _ h => h) (Or.inl ⟨by rfl, ?_⟩) hHeld ?_
                          · intro u hu
                            go_simp
                          try simp only [Act.put, List.setIfInBounds_toArray, List.set_cons_zero, List.set_cons_succ]
                          refine wpAnyH_take (i := 7) (oi := { dst := some 96, op := Op.load 4 (Operand.tmp 95), type := 4, pos := _, after := #[{ on := 6, ground := Ground.data }], guard := none }) (v := .bool false) rfl (by kernel_rfl) (by kernel_rfl) (by kernel_rfl) (fun _ _ _ h => h) (Or.inl ⟨by rfl, ?_⟩) hHeld ?_
                          · intro u hu
                            have x1 := (Stp.of_below hu (fun _ => False)).cell (Pe.at9 hrt).2.2.2.2.2.2.2.2 id; rw [hw.out] at x1; go_simp
                          try simp only [Act.put, List.setIfInBounds_toArray, List.set_cons_zero, List.set_cons_succ]
                          refine wpAnyH_take (i := 8) (oi := { dst := some 97, op := Op.unOp UnOp.not 4 (Operand.tmp 96), type := 4, pos := _, after := #[{ on := 7, ground := Ground.data }], guard := none }) (v := .bool true) rfl (by kernel_rfl) (by kernel_rfl) (by kernel_rfl) (fun _ _ _ h => h) (Or.inl ⟨by rfl, ?_⟩) hHeld ?_
                          · intro u hu
                            go_simp
                          try simp only [Act.put, List.setIfInBounds_toArray, List.set_cons_zero, List.set_cons_succ]
                          refine wpAnyH_take (i := 9) (oi := { dst := some 98, op := Op.move (Operand.tmp 97), type := 4, pos := _, after := #[{ on := 8, ground := Ground.data }], guard := none }) (v := .bool true) rfl (by kernel_rfl) (by kernel_rfl) (by kernel_rfl) (fun _ _ _ h => h) (Or.inl ⟨by rfl, ?_⟩) hHeld ?_
                          · intro u hu
                            go_simp
                          try simp only [Act.put, List.setIfInBounds_toArray, List.set_cons_zero, List.set_cons_succ]
                          refine wpAnyH_take (i := 10) (oi := { dst := some 99, op := Op.move (Operand.tmp 0), type := 25, pos := _, after := #[{ on := 9, ground := Ground.guard }], guard := some (9, true) }) (v := .pointer (some ⟨g, 0, none⟩)) rfl (by kernel_rfl) (by kernel_rfl) (by kernel_rfl) (fun _ _ _ h => h) (Or.inl ⟨by rfl, ?_⟩) hHeld ?_
                          · intro u hu
                            go_simp
                          try simp only [Act.put, List.setIfInBounds_toArray, List.set_cons_zero, List.set_cons_succ]
                          refine wpAnyH_take (i := 11) (oi := { dst := some 100, op := Op.nilCheck (Operand.tmp 99), type := 0, pos := _, after := #[{ on := 10, ground := Ground.data }, { on := 9, ground := Ground.guard }], guard := some (9, true) }) (v := .pointer (some ⟨g, 0, none⟩)) rfl (by kernel_rfl) (by kernel_rfl) (by kernel_rfl) (fun _ _ _ h => h) (Or.inl ⟨by rfl, ?_⟩) hHeld ?_
                          · intro u hu
                            go_simp
                          try simp only [Act.put, List.setIfInBounds_toArray, List.set_cons_zero, List.set_cons_succ]
                          refine wpAnyH_take (i := 12) (oi := { dst := some 101, op := Op.fieldAddr 48 (Operand.tmp 100) 1, type := 0, pos := _, after := #[{ on := 11, ground := Ground.data }, { on := 9, ground := Ground.guard }], guard := some (9, true) }) (v := .pointer (some ⟨g, 1, none⟩)) rfl (by kernel_rfl) (by kernel_rfl) (by kernel_rfl) (fun _ _ _ h => h) (Or.inl ⟨by rfl, ?_⟩) hHeld ?_
                          · intro u hu
                            go_simp
                          try simp only [Act.put, List.setIfInBounds_toArray, List.set_cons_zero, List.set_cons_succ]
                          refine wpAnyH_take (i := 13) (oi := { dst := some 102, op := Op.load 46 (Operand.tmp 101), type := 46, pos := _, after := #[{ on := 12, ground := Ground.data }, { on := 9, ground := Ground.guard }], guard := some (9, true) }) (v := .slice (some ⟨b, 0, none⟩) L.length c) rfl (by kernel_rfl) (by kernel_rfl) (by kernel_rfl) (fun _ _ _ h => h) (Or.inl ⟨by rfl, ?_⟩) hHeld ?_
                          · intro u hu
                            have x1 := (Stp.of_below hu (fun _ => False)).cell z1 id; go_simp
                          try simp only [Act.put, List.setIfInBounds_toArray, List.set_cons_zero, List.set_cons_succ]
                          refine wpAnyH_take (i := 14) (oi := { dst := some 103, op := Op.move (Operand.tmp 12), type := 3, pos := _, after := #[{ on := 9, ground := Ground.guard }], guard := some (9, true) }) (v := .int .i64 (i : Int)) rfl (by kernel_rfl) (by kernel_rfl) (by kernel_rfl) (fun _ _ _ h => h) (Or.inl ⟨by rfl, ?_⟩) hHeld ?_
                          · intro u hu
                            go_simp
                          try simp only [Act.put, List.setIfInBounds_toArray, List.set_cons_zero, List.set_cons_succ]
                          refine wpAnyH_take (i := 15) (oi := { dst := some 104, op := Op.indexAddr 46 (Operand.tmp 102) (Operand.tmp 103), type := 0, pos := _, after := #[{ on := 13, ground := Ground.data }, { on := 14, ground := Ground.data }, { on := 9, ground := Ground.guard }], guard := some (9, true) }) (v := .pointer (some ⟨b, i * 9, none⟩)) rfl (by kernel_rfl) (by kernel_rfl) (by kernel_rfl) (fun _ _ _ h => h) (Or.inl ⟨by rfl, ?_⟩) hHeld ?_
                          · intro u hu
                            go_simp
                          try simp only [Act.put, List.setIfInBounds_toArray, List.set_cons_zero, List.set_cons_succ]
                          refine wpAnyH_take (i := 16) (oi := { dst := some 105, op := Op.load 30 (Operand.tmp 104), type := 30, pos := _, after := #[{ on := 15, ground := Ground.data }, { on := 9, ground := Ground.guard }], guard := some (9, true) }) (v := .agg t.cs.toArray) rfl (by kernel_rfl) (by kernel_rfl) (by kernel_rfl) (fun _ _ _ h => h)
                            (yields_E (by rfl) _ (by rfl) b (i * 9) (by rfl) t (fun u hu => (Stp.of_below hu (fun _ => False)).range hrt id)) hHeld ?_
                          try simp only [Act.put, List.setIfInBounds_toArray, List.set_cons_zero, List.set_cons_succ]
                          refine wpAnyH_take (i := 17) (oi := { dst := some 106, op := Op.load 30 (Operand.tmp 9), type := 30, pos := _, after := #[{ on := 9, ground := Ground.guard }], guard := some (9, true) }) (v := .agg (p.cs d ⟨na, p.needs.length, nc⟩).toArray) rfl (by kernel_rfl) (by kernel_rfl) (by kernel_rfl) (fun _ _ _ h => h)
                            (yields_P (by rfl) _ (by rfl) g5 (by rfl) p d ⟨na, p.needs.length, nc⟩ (fun u hu => r8.later hu)) hHeld ?_
                          try simp only [Act.put, List.setIfInBounds_toArray, List.set_cons_zero, List.set_cons_succ]
                          refine wpAnyH_ready (rs := [18]) (by kernel_rfl) (by simp) ?_
                          refine (AllReadyH.cons (o := { dst := some 107, op := Op.call { callee := Callee.value (Operand.func 71), args := #[Operand.tmp 105, Operand.tmp 106], argTypes := #[30, 30] }, type := 4, pos := _, after := #[{ on := 16, ground := Ground.data }, { on := 17, ground := Ground.data }, { on := 9, ground := Ground.chain }, { on := 9, ground := Ground.guard }], guard := some (9, true) }) rfl (fun K hK => ?_) AllReadyH.nil)
                          go_simp
                          refine (hM _).mono ?_
                          rw [hm]
                          rintro e w7 ⟨rfl, q7⟩
                          try go_wp2_with fail
                          refine hK.out _ _ (bnext (by assumption) q7 (Nat.le_refl _)) (fun hHeld => ?_)
                          clear hK K
                          try simp only [Act.put, List.setIfInBounds_toArray, List.set_cons_zero, List.set_cons_succ]
                          refine wpAnyH_take (i := 19) (oi := { dst := some 108, op := Op.pick (Operand.tmp 98) (Operand.tmp 107) (Operand.const (Value.bool false)), type := 4, pos := _, after := #[{ on := 9, ground := Ground.data }, { on := 18, ground := Ground.data }], guard := none }) (v := .bool false) rfl (by kernel_rfl) (by kernel_rfl) (by kernel_rfl) (fun _ _ _ h => h) (Or.inl ⟨by rfl, ?_⟩) hHeld ?_
                          · intro u hu
                            go_simp
                          try simp only [Act.put, List.setIfInBounds_toArray, List.set_cons_zero, List.set_cons_succ]
                          refine wpAnyH_done (by kernel_rfl) ?_ _
                          have I3 := I.to (fun bs h => n4_no h gt3 (by rw [hpw.out, hw.out, hm]; rfl))
                          have I9 := I3.later hHeld
                          have st9 := st.next (Stp.of_below hHeld (fun x => x = r)) (fun x hx => .inl hx)
                          go_wp2_with fail
                          go_roundw
                          case rel => exact ⟨i + 1, by omega, by go_num, I9, st9⟩
                          case measure => simp [intOf]; try omega
                        | true =>
                          refine wpAnyH_take (i := 0) (oi := { dst := some 89, op := Op.move (Operand.tmp 0), type := 25, pos := _, after := #[], guard := none }) (v := .pointer (some ⟨g, 0, none⟩)) rfl (by kernel_rfl) (by kernel_rfl) (by kernel_rfl) (fun _ _ _ h => h) (Or.inl ⟨by rfl, ?_⟩) hHeld ?_
                          · intro u hu
                            go_simp
                          try simp only [Act.put, List.setIfInBounds_toArray, List.set_cons_zero, List.set_cons_succ]
                          refine wpAnyH_take (i := 1) (oi := { dst := some 90, op := Op.nilCheck (Operand.tmp 89), type := 0, pos := _, after := #[{ on := 0, ground := Ground.data }], guard := none }) (v := .pointer (some ⟨g, 0, none⟩)) rfl (by kernel_rfl) (by kernel_rfl) (by kernel_rfl) (fun _ _ _ h => h) (Or.inl ⟨by rfl, ?_⟩) hHeld ?_
                          · intro u hu
                            go_simp
                          try simp only [Act.put, List.setIfInBounds_toArray, List.set_cons_zero, List.set_cons_succ]
                          refine wpAnyH_take (i := 2) (oi := { dst := some 91, op := Op.fieldAddr 48 (Operand.tmp 90) 1, type := 0, pos := _, after := #[{ on := 1, ground := Ground.data }], guard := none }) (v := .pointer (some ⟨g, 1, none⟩)) rfl (by kernel_rfl) (by kernel_rfl) (by kernel_rfl) (fun _ _ _ h => h) (Or.inl ⟨by rfl, ?_⟩) hHeld ?_
                          · intro u hu
                            go_simp
                          try simp only [Act.put, List.setIfInBounds_toArray, List.set_cons_zero, List.set_cons_succ]
                          refine wpAnyH_take (i := 3) (oi := { dst := some 92, op := Op.load 46 (Operand.tmp 91), type := 46, pos := _, after := #[{ on := 2, ground := Ground.data }], guard := none }) (v := .slice (some ⟨b, 0, none⟩) L.length c) rfl (by kernel_rfl) (by kernel_rfl) (by kernel_rfl) (fun _ _ _ h => h) (Or.inl ⟨by rfl, ?_⟩) hHeld ?_
                          · intro u hu
                            have x1 := (Stp.of_below hu (fun _ => False)).cell z1 id; go_simp
                          try simp only [Act.put, List.setIfInBounds_toArray, List.set_cons_zero, List.set_cons_succ]
                          refine wpAnyH_take (i := 4) (oi := { dst := some 93, op := Op.move (Operand.tmp 12), type := 3, pos := _, after := #[], guard := none }) (v := .int .i64 (i : Int)) rfl (by kernel_rfl) (by kernel_rfl) (by kernel_rfl) (fun _ _ _ h => h) (Or.inl ⟨by rfl, ?_⟩) hHeld ?_
                          · intro u hu
                            go_simp
                          try simp only [Act.put, List.setIfInBounds_toArray, List.set_cons_zero, List.set_cons_succ]
                          refine wpAnyH_take (i := 5) (oi := { dst := some 94, op := Op.indexAddr 46 (Operand.tmp 92) (Operand.tmp 93), type := 0, pos := _, after := #[{ on := 3, ground := Ground.data }, { on := 4, ground := Ground.data }], guard := none }) (v := .pointer (some ⟨b, i * 9, none⟩)) rfl (by kernel_rfl) (by kernel_rfl) (by kernel_rfl) (fun _ _ _ h => h) (Or.inl ⟨by rfl, ?_⟩) hHeld ?_
                          · intro u hu
                            go_simp
                          try simp only [Act.put, List.setIfInBounds_toArray, List.set_cons_zero, List.set_cons_succ]
                          refine wpAnyH_take (i := 6) (oi := { dst := some 95, op := Op.fieldAddr 30 (Operand.tmp 94) 8, type := 0, pos := _, after := #[{ on := 5, ground := Ground.data }], guard := none }) (v := .pointer (some ⟨b, i * 9 + 8, none⟩)) rfl (by kernel_rfl) (by kernel_rfl) (by kernel_rfl) (fun _ _ _ h => h) (Or.inl ⟨by rfl, ?_⟩) hHeld ?_
                          · intro u hu
                            go_simp
                          try simp only [Act.put, List.setIfInBounds_toArray, List.set_cons_zero, List.set_cons_succ]
                          refine wpAnyH_take (i := 7) (oi := { dst := some 96, op := Op.load 4 (Operand.tmp 95), type := 4, pos := _, after := #[{ on := 6, ground := Ground.data }], guard := none }) (v := .bool false) rfl (by kernel_rfl) (by kernel_rfl) (by kernel_rfl) (fun _ _ _ h => h) (Or.inl ⟨by rfl, ?_⟩) hHeld ?_
                          · intro u hu
                            have x1 := (Stp.of_below hu (fun _ => False)).cell (Pe.at9 hrt).2.2.2.2.2.2.2.2 id; rw [hw.out] at x1; go_simp
                          try simp only [Act.put, List.setIfInBounds_toArray, List.set_cons_zero, List.set_cons_succ]
                          refine wpAnyH_take (i := 8) (oi := { dst := some 97, op := Op.unOp UnOp.not 4 (Operand.tmp 96), type := 4, pos := _, after := #[{ on := 7, ground := Ground.data }], guard := none }) (v := .bool true) rfl (by kernel_rfl) (by kernel_rfl) (by kernel_rfl) (fun _ _ _ h => h) (Or.inl ⟨by rfl, ?_⟩) hHeld ?_
                          · intro u hu
                            go_simp
                          try simp only [Act.put, List.setIfInBounds_toArray, List.set_cons_zero, List.set_cons_succ]
                          refine wpAnyH_take (i := 9) (oi := { dst := some 98, op := Op.move (Operand.tmp 97), type := 4, pos := _, after := #[{ on := 8, ground := Ground.data }], guard := none }) (v := .bool true) rfl (by kernel_rfl) (by kernel_rfl) (by kernel_rfl) (fun _ _ _ h => h) (Or.inl ⟨by rfl, ?_⟩) hHeld ?_
                          · intro u hu
                            go_simp
                          try simp only [Act.put, List.setIfInBounds_toArray, List.set_cons_zero, List.set_cons_succ]
                          refine wpAnyH_take (i := 10) (oi := { dst := some 99, op := Op.move (Operand.tmp 0), type := 25, pos := _, after := #[{ on := 9, ground := Ground.guard }], guard := some (9, true) }) (v := .pointer (some ⟨g, 0, none⟩)) rfl (by kernel_rfl) (by kernel_rfl) (by kernel_rfl) (fun _ _ _ h => h) (Or.inl ⟨by rfl, ?_⟩) hHeld ?_
                          · intro u hu
                            go_simp
                          try simp only [Act.put, List.setIfInBounds_toArray, List.set_cons_zero, List.set_cons_succ]
                          refine wpAnyH_take (i := 11) (oi := { dst := some 100, op := Op.nilCheck (Operand.tmp 99), type := 0, pos := _, after := #[{ on := 10, ground := Ground.data }, { on := 9, ground := Ground.guard }], guard := some (9, true) }) (v := .pointer (some ⟨g, 0, none⟩)) rfl (by kernel_rfl) (by kernel_rfl) (by kernel_rfl) (fun _ _ _ h => h) (Or.inl ⟨by rfl, ?_⟩) hHeld ?_
                          · intro u hu
                            go_simp
                          try simp only [Act.put, List.setIfInBounds_toArray, List.set_cons_zero, List.set_cons_succ]
                          refine wpAnyH_take (i := 12) (oi := { dst := some 101, op := Op.fieldAddr 48 (Operand.tmp 100) 1, type := 0, pos := _, after := #[{ on := 11, ground := Ground.data }, { on := 9, ground := Ground.guard }], guard := some (9, true) }) (v := .pointer (some ⟨g, 1, none⟩)) rfl (by kernel_rfl) (by kernel_rfl) (by kernel_rfl) (fun _ _ _ h => h) (Or.inl ⟨by rfl, ?_⟩) hHeld ?_
                          · intro u hu
                            go_simp
                          try simp only [Act.put, List.setIfInBounds_toArray, List.set_cons_zero, List.set_cons_succ]
                          refine wpAnyH_take (i := 13) (oi := { dst := some 102, op := Op.load 46 (Operand.tmp 101), type := 46, pos := _, after := #[{ on := 12, ground := Ground.data }, { on := 9, ground := Ground.guard }], guard := some (9, true) }) (v := .slice (some ⟨b, 0, none⟩) L.length c) rfl (by kernel_rfl) (by kernel_rfl) (by kernel_rfl) (fun _ _ _ h => h) (Or.inl ⟨by rfl, ?_⟩) hHeld ?_
                          · intro u hu
                            have x1 := (Stp.of_below hu (fun _ => False)).cell z1 id; go_simp
                          try simp only [Act.put, List.setIfInBounds_toArray, List.set_cons_zero, List.set_cons_succ]
                          refine wpAnyH_take (i := 14) (oi := { dst := some 103, op := Op.move (Operand.tmp 12), type := 3, pos := _, after := #[{ on := 9, ground := Ground.guard }], guard := some (9, true) }) (v := .int .i64 (i : Int)) rfl (by kernel_rfl) (by kernel_rfl) (by kernel_rfl) (fun _ _ _ h => h) (Or.inl ⟨by rfl, ?_⟩) hHeld ?_
                          · intro u hu
                            go_simp
                          try simp only [Act.put, List.setIfInBounds_toArray, List.set_cons_zero, List.set_cons_succ]
                          refine wpAnyH_take (i := 15) (oi := { dst := some 104, op := Op.indexAddr 46 (Operand.tmp 102) (Operand.tmp 103), type := 0, pos := _, after := #[{ on := 13, ground := Ground.data }, { on := 14, ground := Ground.data }, { on := 9, ground := Ground.guard }], guard := some (9, true) }) (v := .pointer (some ⟨b, i * 9, none⟩)) rfl (by kernel_rfl) (by kernel_rfl) (by kernel_rfl) (fun _ _ _ h => h) (Or.inl ⟨by rfl, ?_⟩) hHeld ?_
                          · intro u hu
                            go_simp
                          try simp only [Act.put, List.setIfInBounds_toArray, List.set_cons_zero, List.set_cons_succ]
                          refine wpAnyH_take (i := 16) (oi := { dst := some 105, op := Op.load 30 (Operand.tmp 104), type := 30, pos := _, after := #[{ on := 15, ground := Ground.data }, { on := 9, ground := Ground.guard }], guard := some (9, true) }) (v := .agg t.cs.toArray) rfl (by kernel_rfl) (by kernel_rfl) (by kernel_rfl) (fun _ _ _ h => h)
                            (yields_E (by rfl) _ (by rfl) b (i * 9) (by rfl) t (fun u hu => (Stp.of_below hu (fun _ => False)).range hrt id)) hHeld ?_
                          try simp only [Act.put, List.setIfInBounds_toArray, List.set_cons_zero, List.set_cons_succ]
                          refine wpAnyH_take (i := 17) (oi := { dst := some 106, op := Op.load 30 (Operand.tmp 9), type := 30, pos := _, after := #[{ on := 9, ground := Ground.guard }], guard := some (9, true) }) (v := .agg (p.cs d ⟨na, p.needs.length, nc⟩).toArray) rfl (by kernel_rfl) (by kernel_rfl) (by kernel_rfl) (fun _ _ _ h => h)
                            (yields_P (by rfl) _ (by rfl) g5 (by rfl) p d ⟨na, p.needs.length, nc⟩ (fun u hu => r8.later hu)) hHeld ?_
                          try simp only [Act.put, List.setIfInBounds_toArray, List.set_cons_zero, List.set_cons_succ]
                          refine wpAnyH_ready (rs := [18]) (by kernel_rfl) (by simp) ?_
                          refine (AllReadyH.cons (o := { dst := some 107, op := Op.call { callee := Callee.value (Operand.func 71), args := #[Operand.tmp 105, Operand.tmp 106], argTypes := #[30, 30] }, type := 4, pos := _, after := #[{ on := 16, ground := Ground.data }, { on := 17, ground := Ground.data }, { on := 9, ground := Ground.chain }, { on := 9, ground := Ground.guard }], guard := some (9, true) }) rfl (fun K hK => ?_) AllReadyH.nil)
                          go_simp
                          refine (hM _).mono ?_
                          rw [hm]
                          rintro e w7 ⟨rfl, q7⟩
                          try go_wp2_with fail
                          refine hK.out _ _ (bnext (by assumption) q7 (Nat.le_refl _)) (fun hHeld => ?_)
                          clear hK K
                          try simp only [Act.put, List.setIfInBounds_toArray, List.set_cons_zero, List.set_cons_succ]
                          refine wpAnyH_take (i := 19) (oi := { dst := some 108, op := Op.pick (Operand.tmp 98) (Operand.tmp 107) (Operand.const (Value.bool false)), type := 4, pos := _, after := #[{ on := 9, ground := Ground.data }, { on := 18, ground := Ground.data }], guard := none }) (v := .bool true) rfl (by kernel_rfl) (by kernel_rfl) (by kernel_rfl) (fun _ _ _ h => h) (Or.inl ⟨by rfl, ?_⟩) hHeld ?_
                          · intro u hu
                            go_simp
                          try simp only [Act.put, List.setIfInBounds_toArray, List.set_cons_zero, List.set_cons_succ]
                          refine wpAnyH_done (by kernel_rfl) ?_ _
                          have Ih := I.later hHeld
                          have cy := Ih.cell gt3
                          have fy := Ih.froz i
                          obtain ⟨I9, s9⟩ := Ih.set i a1 (fun bs h => n4_yes h gt3 (by rw [hpw.out, hw.out, hm]; rfl))
                          have st9 := (st.next (Stp.of_below hHeld (fun x => x = r)) (fun x hx => .inl hx)).next s9 (fun x hx => .inl hx)
                          go_wp2_with fail
                          go_roundw
                          case rel => exact ⟨i + 1, by omega, by go_num, I9, st9⟩
                          case measure => simp [intOf]; try omega
                  · have p9 : ¬ (i : Int) < (k : Int) := by omega
                    have I2 := I.to (fun bs h => n4_end h hget (.inl (by omega)) hi hy.out)
                    clear c8
                    go_wp2_with fail
                    go_roundw
                    case rel => exact ⟨k, by omega, by go_num, I2⟩
                    case measure => simp [intOf]; try omega
end Go.Proofs.YtigchhogclofiaaGreat
