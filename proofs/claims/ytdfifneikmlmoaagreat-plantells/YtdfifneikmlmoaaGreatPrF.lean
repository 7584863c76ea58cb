/-
  What same of the statements of layer 16 tells of the same batches: no statement is proved here.
-/
import Derived.Test.YtdfifneikmlmoaaGreatRgL
import Derived.Test.YtdfifneikmlmoaaGreatRgK
import Derived.Test.YtdfifneikmlmoaaGreatPlF
import Derived.Test.YtdfifneikmlmoaaGreatPeA
import Derived.Test.YtdfifneikmlmoaaGreatPtIn
import Derived.Test.YtdfifneikmlmoaaGreatGsD
import Derived.Test.YtdfifneikmlmoaaGreatMadeA
import Derived.Test.YtdfifneikmlmoaaGreatGrQ
namespace Go.Proofs.YtdfifneikmlmoaaGreat
open Go.ChangeShapes Go.WideShapes Go.ChangeAt Go.RowKit
set_option linter.unusedVariables false
set_option linter.unusedSimpArgs false

/-- The truths lie in block r. -/
structure NdI (w wr : World) (r : Nat) (l : List Pt) (f : Nat → Pt → Bool) : Prop where
  ex : ∃ bs, Bw bs l f ∧ Cs wr r (bV bs)
  b : Below w.heap.size w wr
theorem NdI.later {w wr w' : World} {r : Nat} {l : List Pt} {f : Nat → Pt → Bool} (h : NdI w wr r l f) (k : Below wr.heap.size wr w') : NdI w w' r l f := by
  obtain ⟨⟨bs, h1, h2⟩, h3⟩ := h
  exact ⟨⟨bs, h1, h2.later k⟩, bnext h3 k (Nat.le_refl _)⟩
theorem NdI.cell {w wr : World} {r : Nat} {l : List Pt} {f : Nat → Pt → Bool} (h : NdI w wr r l f) {j : Nat} {p : Pt} (hj : l[j]? = some p) : wr.cell? ⟨r, j, none⟩ = some (.bool (f j p)) := by
  obtain ⟨⟨bs, h1, h2⟩, h3⟩ := h
  exact h2.cell j _ (by unfold bV; rw [List.getElem?_map, h1.get j p hj]; rfl)
theorem NdI.froz {w wr : World} {r : Nat} {l : List Pt} {f : Nat → Pt → Bool} (h : NdI w wr r l f) (j : Nat) : wr.frozen? ⟨r, j, none⟩ = false := by
  obtain ⟨⟨bs, h1, h2⟩, h3⟩ := h
  exact h2.frozen j
theorem NdI.lt {w wr : World} {r : Nat} {l : List Pt} {f : Nat → Pt → Bool} (h : NdI w wr r l f) : r < wr.heap.size := by
  obtain ⟨⟨bs, h1, h2⟩, h3⟩ := h
  exact h2.lt
theorem NdI.to {w wr : World} {r : Nat} {l : List Pt} {f f' : Nat → Pt → Bool} (h : NdI w wr r l f) (k : ∀ bs, Bw bs l f → Bw bs l f') : NdI w wr r l f' := by
  obtain ⟨⟨bs, h1, h2⟩, h3⟩ := h
  exact ⟨⟨bs, k bs h1, h2⟩, h3⟩
theorem NdI.set {w wr : World} {r : Nat} {l : List Pt} {f f' : Nat → Pt → Bool} (h : NdI w wr r l f) (j : Nat) (hr : w.heap.size ≤ r) (k : ∀ bs, Bw bs l f → Bw (bs.set j true) l f') : NdI w (wr.setCell ⟨r, j, none⟩ (.bool true)) r l f' ∧ Stp (fun x => x = r) wr (wr.setCell ⟨r, j, none⟩ (.bool true)) := by
  obtain ⟨⟨bs, h1, h2⟩, h3⟩ := h
  have s : Stp (fun x => x = r) wr (wr.setCell ⟨r, j, none⟩ (.bool true)) := (Stp.refl (fun x => x = r) wr).setCell (p := ⟨r, j, none⟩) (.inl rfl) _
  have e : (bV bs).set j (.bool true) = bV (bs.set j true) := by unfold bV; rw [List.map_set]
  refine ⟨⟨⟨bs.set j true, k bs h1, by rw [← e]; exact h2.set j _ rfl⟩, ((Stp.of_below h3 (fun _ => False)).next s (fun x e => .inr (by omega))).below (Nat.le_refl _) (fun x e => e.elim)⟩, s⟩
theorem NdI.step {w wr w' : World} {r : Nat} {l : List Pt} {f : Nat → Pt → Bool} {F : Nat → Prop} (h : NdI w wr r l f) (k : Stp F wr w') (hr : ¬ F r) (hb : Below w.heap.size w w') : NdI w w' r l f := by
  obtain ⟨⟨bs, h1, h2⟩, h3⟩ := h
  exact ⟨⟨bs, h1, h2.step k hr⟩, hb⟩
set_option maxRecDepth 100000 in
set_option maxHeartbeats 8000000 in
theorem rneeded_any {w : World} {g : Nat} {Z : GZ} {a : Option Addr} {c : Nat} {L : List Pe} {R : Nat → Prop} (H : Rf w g Z a c L R) {sv : Sv} {is : List Int} (hs : InsS w sv is) (hsl : is.length ≤ 100000) :
    Calls Tryz.prog 33 #[.pointer (some ⟨g, 0, none⟩), .slice sv.a sv.n sv.c] w fun e w' => ∃ v, e = .returned v ∧ OwV w' v (ids (nd is Z.l)) ∧ New w.heap.size v ∧ Below w.heap.size w w' := by
  have t0 : True := trivial
  have hfew := H.few
  have hcap : L.length ≤ maxLen := by obtain ⟨_, _, _, h, _⟩ := H.row.shape; exact h
  have hlen' : Hid (L.length = Z.l.length) := H.len
  obtain ⟨z0, z1⟩ := H.cells
  have hn := hs.i.len
  obtain ⟨sa, sn, sc⟩ := sv
  simp only at hn
  subst hn
  have hcapl : is.length ≤ maxLen := Nat.le_trans hs.i.le hs.i.cap
  go_enter Tryz.func33, Tryz.ntmps33
  go_wp2_with (first
    | (clear t0; refine at_mkb _ (by rfl) (by rfl) L.length (by rfl) (by omega) ?_; intro r w1 a1 a2 r1 b1))
  have i0 : NdI w w1 r Z.l (n1 is 0) := ⟨⟨_, n1_zero is Z.l, by rw [← hlen'.out]; exact r1⟩, b1⟩
  clear r1 z0 z1
  go_loopw [6] (fun v wr => ∃ i : Nat, i ≤ is.length ∧ v = .int .i64 (i : Int) ∧ NdI w wr r Z.l (n1 is i)) (fun v _ => is.length - (intOf v).toNat)
  case atStart => exact ⟨0, Nat.zero_le _, rfl, i0⟩
  case round =>
    clear i0
    obtain ⟨i, hi, rfl, I⟩ := hrel
    have a8 : (0 : Int) ≤ (i : Int) := by omega
    by_cases hil : i < is.length
    · have a9 : (i : Int) < (is.length : Int) := by omega
      obtain ⟨sb, so, e1, hcell⟩ := (hs.later I.b).i.cell (by show 0 < is.length; omega)
      simp only at e1
      subst e1
      have ck := hcell i hil
      have hx : is[i]? = some (is.getD i 0) := by rw [List.getElem?_eq_getElem hil, List.getD_eq_getElem?_getD, List.getElem?_eq_getElem hil]; rfl
      generalize is.getD i 0 = x at *
      have hF := find_any (H.later I.b) x
      clear hcell
      rcases fdx_cases Z.l x with ⟨f1, f2⟩ | ⟨j, p, f1, f2, f3, f4⟩
      · have I2 := I.to (fun bs h => n1_no h hx f2)
        rw [f1] at hF
        clear f1 f2
        go_wp2_with (first
          | (go_at_call 50; refine hF.mono ?_; rintro e w2 ⟨rfl, rfl⟩))
        go_roundw
        case rel => exact ⟨i + 1, by omega, by go_num, I2⟩
        case measure => simp [intOf]; try omega
      · obtain ⟨I2, _⟩ := I.set j a1 (fun bs h => n1_yes H.ok.srt h hx f2 (fnd_mem f3).2)
        have cy := I.cell f2
        have fy := I.froz j
        have q1 : (0 : Int) ≤ (j : Int) := by omega
        have q2 : (j : Int) < (L.length : Int) := by rw [hlen'.out]; omega
        rw [f1] at hF
        clear f1 f2 f3 f4
        go_wp2_with (first
          | (go_at_call 50; refine hF.mono ?_; rintro e w2 ⟨rfl, rfl⟩))
        go_roundw
        case rel => exact ⟨i + 1, by omega, by go_num, I2⟩
        case measure => simp [intOf]; try omega
    · have a9 : ¬ (i : Int) < (is.length : Int) := by omega
      have ei : i = is.length := by omega
      rw [ei] at I
      have I2 : NdI w wr r Z.l (n2 is Z.l L.length) := I.to (fun bs h => by rw [hlen'.out]; exact n2_start h)
      clear I ei hi
      have H4 := H.later I2.b
      obtain ⟨z0, z1⟩ := H4.cells
      go_wp2_with fail
      clear z0 z1 H4
      go_loopw [8] (fun v wr => ∃ m : Nat, m ≤ L.length ∧ v = .int .i64 ((m : Int) - 1) ∧ NdI w wr r Z.l (n2 is Z.l m)) (fun v _ => ((intOf v) + 1).toNat)
      case atStart => exact ⟨L.length, Nat.le_refl _, by go_num, I2⟩
      case round =>
        clear I2
        obtain ⟨m, hm, rfl, I⟩ := hrel
        cases m with
        | zero =>
          have e8 : (((0 : Nat) : Int) - 1) = -1 := by omega
          rw [e8]
          go_wp2_with fail
          have J0 := (BuI.made w wr I.b)
          have N0 := I.later ((Below.refl _ wr).alloc (Nat.le_refl _) (.cells #[] 3))
          have ap0 : ∀ x, (Value.slice (some ⟨wr.heap.size, 0, none⟩) 0 0).ownBlock = some x → x ≠ r := fun x hx e => by have := ob_eq hx; have := I.lt; omega
          clear I
          go_loopw [13, 14] (fun u v wr => ∃ (k : Nat) (sv : Sv) (out : List Int), k ≤ L.length ∧ u = .slice sv.a sv.n sv.c ∧ v = .int .i64 (k : Int) ∧ out ++ ids (nd is (Z.l.drop k)) = ids (nd is Z.l) ∧ out.length ≤ k ∧ BuI w wr (.slice sv.a sv.n sv.c) out ∧ NdI w wr r Z.l (n2 is Z.l 0) ∧ (∀ x, (Value.slice sv.a sv.n sv.c).ownBlock = some x → x ≠ r)) (fun _ v _ => L.length - (intOf v).toNat)
          case atStart => exact ⟨0, ⟨_, _, _⟩, [], Nat.zero_le _, rfl, rfl, rfl, Nat.le_refl _, J0, N0, ap0⟩
          case round =>
            clear J0 N0 ap0
            obtain ⟨k, sv, out, hk, rfl, rfl, heq, hol, J, I, ap⟩ := hrel
            have H4 := H.later J.b
            obtain ⟨z0, z1⟩ := H4.cells
            have q8 : (0 : Int) ≤ (k : Int) := by omega
            by_cases hkl : k < L.length
            · obtain ⟨b, t, rfl, e2, hr⟩ := H4.row.el k hkl
              obtain ⟨c0, _⟩ := Pe.at9 hr
              have q9 : (k : Int) < (L.length : Int) := by omega
              have cy := I.cell (H4.get e2)
              have e0 : n2 is Z.l 0 k t.p = wnt is (nd is (Z.l.drop (k + 1))) t.p := by unfold n2; rw [Nat.max_eq_right (by omega)]
              rw [e0] at cy
              have hst : Hid (nd is (Z.l.drop k) = if wnt is (nd is (Z.l.drop (k + 1))) t.p then t.p :: nd is (Z.l.drop (k + 1)) else nd is (Z.l.drop (k + 1))) := nd_drop (H4.get e2)
              have heq' : Hid (out ++ ids (nd is (Z.l.drop k)) = ids (nd is Z.l)) := heq
              obtain ⟨y, hy⟩ : ∃ y, Hid (wnt is (nd is (Z.l.drop (k + 1))) t.p = y) := ⟨_, rfl⟩
              rw [hy.out] at cy
              have hbig : out.length + 1 ≤ 1000000 := by omega
              clear hr e0 heq
              cases y with
              | true =>
                have hn2 : (out ++ [t.p.id]) ++ ids (nd is (Z.l.drop (k + 1))) = ids (nd is Z.l) := by
                  rw [← heq'.out, hst.out, hy.out, if_pos rfl]; unfold ids; simp
                have hn2' : Hid ((out ++ [t.p.id]) ++ ids (nd is (Z.l.drop (k + 1))) = ids (nd is Z.l)) := hn2
                clear hn2
                go_wp2_with (first
                  | (at_builtin; refine at_appR elI w.heap.size rfl _ _ (by rfl) (by rfl) (ro_later J.ow ((Below.refl _ wr).alloc (Nat.le_refl _) _)) J.nw (some ⟨wr.heap.size, 0, none⟩) 1 [.int .i64 t.p.id] (by rfl) (by simp) (fun e => by cases e) (fun ad e => by injection e with e; subst e; exact cell_one_new _ _ _) (by simp [Value.oneCell']) hbig (Nat.le_trans J.b.size (by simp)) ?_; intro v' w9 hA; have J9 := J.app ((Below.refl _ wr).alloc (Nat.le_refl _) _) hA; obtain ⟨xa, xn, xc, rfl⟩ := J9.ow.shape
                     have I9 := (I.later ((Below.refl _ wr).alloc (Nat.le_refl _) (.cells #[.int .i64 t.p.id] 3))).step hA.2.2.2.1 (fun e => ap r e rfl) J9.b
                     have ap9 : ∀ x, (Value.slice xa xn xc).ownBlock = some x → x ≠ r := fun x hx e => by
                       have hl := I.lt
                       rcases hA.2.2.1 with h | ⟨h, _⟩
                       · rw [h] at hx; exact ap x hx e
                       · rw [h] at hx; injection hx with hx
                         have : (wr.alloc (.cells #[.int .i64 t.p.id] 3)).heap.size = wr.heap.size + 1 := by simp
                         omega
                     clear hA))
                go_roundw
                case rel => exact ⟨k + 1, ⟨xa, xn, xc⟩, out ++ [t.p.id], by omega, rfl, by go_num, hn2'.out, by simp; omega, J9, I9, ap9⟩
                case measure => simp [intOf]; try omega
              | false =>
                have hn2' : Hid (out ++ ids (nd is (Z.l.drop (k + 1))) = ids (nd is Z.l)) := by
                  show _ = _
                  rw [← heq'.out, hst.out, hy.out, if_neg (by simp)]
                go_wp2_with fail
                go_roundw
                case rel => exact ⟨k + 1, sv, out, by omega, rfl, by go_num, hn2'.out, by omega, J, I, ap⟩
                case measure => simp [intOf]; try omega
            · have q9 : ¬ (k : Int) < (L.length : Int) := by omega
              have e5 : out = ids (nd is Z.l) := by
                rw [← heq, List.drop_eq_nil_of_le (by rw [← hlen'.out]; omega)]; simp [nd, ids]
              have e5' : Hid (out = ids (nd is Z.l)) := e5
              clear e5 heq
              go_wp2_with fail
              go_returns
              exact ⟨_, rfl, by rw [← e5'.out]; exact J.ow, J.nw, J.b⟩
        | succ k =>
          have e8 : (((k + 1 : Nat) : Int) - 1) = (k : Int) := by omega
          rw [e8]
          have H4 := H.later I.b
          obtain ⟨z0, z1⟩ := H4.cells
          have q8 : (0 : Int) ≤ (k : Int) := by omega
          have q9 : (k : Int) < (L.length : Int) := by omega
          obtain ⟨b, t, rfl, e2, hr⟩ := H4.row.el k (by omega)
          have hget := H4.get e2
          have cy := I.cell hget
          have e0 : n2 is Z.l (k + 1) k t.p = wnt is (nd is (Z.l.drop (k + 1))) t.p := by unfold n2; rw [Nat.max_eq_left (by omega)]
          rw [e0] at cy
          obtain ⟨y, hy⟩ : ∃ y, Hid (wnt is (nd is (Z.l.drop (k + 1))) t.p = y) := ⟨_, rfl⟩
          rw [hy.out] at cy
          clear e0 e8
          cases y with
          | false =>
            have I2 := I.to (fun bs h => n2_skip h hget hy.out)
            go_wp2_with fail
            go_roundw
            case rel => exact ⟨k, by omega, by go_num, I2⟩
            case measure => simp [intOf]; try omega
          | true =>
            obtain ⟨l1, l2, m4⟩ := H4.dl e2
            obtain ⟨p, d, na, nn, nc⟩ := t
            have hnn : p.needs.length = nn := m4.is.i.len
            subst hnn
            have t1 : True := trivial
            have t2 : True := trivial
            have t3 : True := trivial
            go_wp2_with (first
              | (clear t1; refine at_getE _ (by rfl) (by rfl) b (k * 9) (by rfl) ⟨p, d, ⟨na, p.needs.length, nc⟩⟩ hr ?_)
              | (clear t2; refine at_newP (by rfl) (by rfl) ?_; intro g5 w5 a3 a4 r5 b5)
              | (clear t3; refine at_putP (by rfl) _ _ (by rfl) g5 (by rfl) p d ⟨na, p.needs.length, nc⟩ (by rfl) _ r5 rfl ?_; intro w6 r6 s6))
            have B6 : Below wr.heap.size wr w6 := ((Stp.of_below b5 (fun _ => False)).next s6 (fun x e => .inr (by omega))).below (Nat.le_refl _) (fun x e => e.elim)
            have I6 := (I.later B6).to (fun bs h => n3_zero (p := p) h)
            have H6 := H4.later B6
            have m6 := m4.later B6
            have hrl : r < wr.heap.size := I.lt
            have hgw : g < w.heap.size := H.cc.lt
            have hg5r : g5 ≠ r := by omega
            have hRr : ∀ x, R x → ¬ x = r := fun x hx e => by have := H.lt x hx; omega
            have fp := H4.ok.ft p (H4.mem e2)
            have dp : d.n = p.data.length := m4.bs.len.symm
            have nds := H4.ok.nds p (H4.mem e2)
            have hnmax : p.needs.length ≤ maxLen := Nat.le_trans m6.is.i.le m6.is.i.cap
            clear r5 b5 s6 H4 z0 z1 m4 hr cy I B6
            go_loopw [10] (fun v wx => ∃ i : Nat, i ≤ p.needs.length ∧ v = .int .i64 (i : Int) ∧ NdI w wx r Z.l (n3 is Z.l k p i) ∧ Stp (fun x => x = r) w6 wx) (fun v _ => p.needs.length - (intOf v).toNat)
            case atStart => exact ⟨0, Nat.zero_le _, rfl, I6, Stp.refl _ _⟩
            case round =>
              clear I6
              obtain ⟨i, hi, rfl, I, st⟩ := hrel
              have p8 : (0 : Int) ≤ (i : Int) := by omega
              have rx := r6.step st hg5r
              have c5 := (Pt.cells rx).2.2.2.2.2.1
              by_cases hil : i < p.needs.length
              · have p9 : (i : Int) < (p.needs.length : Int) := by omega
                have mx := m6.step st hRr
                obtain ⟨nb, no, en, hnc⟩ := mx.is.i.cell (by show 0 < p.needs.length; omega)
                simp only at en
                subst en
                have cn := hnc i hil
                have hx : p.needs[i]? = some (p.needs.getD i 0) := by rw [List.getElem?_eq_getElem hil, List.getD_eq_getElem?_getD, List.getElem?_eq_getElem hil]; rfl
                have hxl := (nds _ (List.mem_of_getElem? hx)).2
                generalize p.needs.getD i 0 = x at *
                have hF := find_any (H6.step st (fun e => by omega) hRr) x
                clear hnc mx rx
                rcases fdx_cases Z.l x with ⟨f1, f2⟩ | ⟨j, q, f1, f2, f3, f4⟩
                · have I2 := I.to (fun bs h => n3_no h hx f2)
                  rw [f1] at hF
                  clear f1 f2
                  go_wp2_with (first
                    | (go_at_call 50; refine hF.mono ?_; rintro e w2 ⟨rfl, rfl⟩))
                  go_roundw
                  case rel => exact ⟨i + 1, by omega, by go_num, I2, st⟩
                  case measure => simp [intOf]; try omega
                · obtain ⟨I2, s2⟩ := I.set j a1 (fun bs h => n3_yes H.ok.srt h hget hx hxl f2 (fnd_mem f3).2)
                  have st2 := st.next s2 (fun x hx => .inl hx)
                  have cy := I.cell f2
                  have fy := I.froz j
                  have p1 : (0 : Int) ≤ (j : Int) := by omega
                  have p2 : (j : Int) < (L.length : Int) := by rw [hlen'.out]; omega
                  rw [f1] at hF
                  clear f1 f2 f3 f4 s2
                  go_wp2_with (first
                    | (go_at_call 50; refine hF.mono ?_; rintro e w2 ⟨rfl, rfl⟩))
                  go_roundw
                  case rel => exact ⟨i + 1, by omega, by go_num, I2, st2⟩
                  case measure => simp [intOf]; try omega
              · have p9 : ¬ (i : Int) < (p.needs.length : Int) := by omega
                have ei : i = p.needs.length := by omega
                rw [ei] at I
                have I4 := I.to (fun bs h => n4_zero h)
                clear I ei hi rx
                go_wp2_with fail
                clear c5 p9 p8
                go_loopw [12] (fun v wx => ∃ i : Nat, i ≤ k ∧ v = .int .i64 (i : Int) ∧ NdI w wx r Z.l (n4 is Z.l k p i) ∧ Stp (fun x => x = r) w6 wx) (fun v _ => k - (intOf v).toNat)
                case atStart => exact ⟨0, Nat.zero_le _, rfl, I4, st⟩
                case round =>
                  clear I4 st
                  obtain ⟨i, hi, rfl, I, st⟩ := hrel
                  have p8 : (0 : Int) ≤ (i : Int) := by omega
                  have r8 := r6.step st hg5r
                  have c8 := (Pt.cells r8).2.2.2.2.2.2.2.2
                  obtain ⟨pw, hpw⟩ : ∃ pw, Hid (p.wr = pw) := ⟨_, rfl⟩
                  rw [hpw.out] at c8
                  by_cases hik : i < k
                  · have p9 : (i : Int) < (k : Int) := by omega
                    have p7 : (i : Int) < (L.length : Int) := by omega
                    cases pw with
                    | true =>
                      have I2 := I.to (fun bs h => n4_end h hget (.inr hpw.out) hi hy.out)
                      go_wp2_with fail
                      go_roundw
                      case rel => exact ⟨k, by omega, by go_num, I2⟩
                      case measure => simp [intOf]; try omega
                    | false =>
                      have H8 := H6.step st (fun e => by omega) hRr
                      obtain ⟨z0, z1⟩ := H8.cells
                      obtain ⟨b', t, eb, e3, hrt⟩ := H8.row.el i (by omega)
                      injection eb with eb; injection eb with eb; subst eb
                      have ft := H8.ok.ft _ (H8.mem e3)
                      have lt : t.d.n = t.p.data.length := (H8.dl e3).2.2.bs.len.symm
                      have hM := fun w => rmeet_any w t ⟨p, d, ⟨na, p.needs.length, nc⟩⟩ ft fp lt dp
                      have gt3 := H8.get e3
                      obtain ⟨wb, hw⟩ : ∃ wb, Hid (t.p.wr = wb) := ⟨_, rfl⟩
                      go_wp2_with fail
                      refine wp_region_held_drew (S := fun u => Below wr.heap.size wr u) (by kernel_rfl) (Below.refl _ _).drew (fun hHeld => ?_)
                      cases wb with
                      | true =>
                        refine wpAnyH_take (i := 0) (oi := { dst := some 89, op := Op.move (Operand.tmp 0), type := 25, pos := _, after := #[], guard := none }) (v := .pointer (some ⟨g, 0, none⟩)) rfl (by kernel_rfl) (by kernel_rfl) (by kernel_rfl) (fun _ _ _ h => h) (Or.inl ⟨by rfl, ?_⟩) hHeld ?_
                        · intro u hu
                          go_simp
                        try simp only [Act.put, List.setIfInBounds_toArray, List.set_cons_zero, List.set_cons_succ]
                        refine wpAnyH_take (i := 1) (oi := { dst := some 90, op := Op.nilCheck (Operand.tmp 89), type := 0, pos := _, after := #[{ on := 0, ground := Ground.data }], guard := none }) (v := .pointer (some ⟨g, 0, none⟩)) rfl (by kernel_rfl) (by kernel_rfl) (by kernel_rfl) (fun _ _ _ h => h) (Or.inl ⟨by rfl, ?_⟩) hHeld ?_
                        · intro u hu
                          go_simp
                        try simp only [Act.put, List.setIfInBounds_toArray, List.set_cons_zero, List.set_cons_succ]
                        refine wpAnyH_take (i := 2) (oi := { dst := some 91, op := Op.fieldAddr 57 (Operand.tmp 90) 1, type := 0, pos := _, after := #[{ on := 1, ground := Ground.data }], guard := none }) (v := .pointer (some ⟨g, 1, none⟩)) rfl (by kernel_rfl) (by kernel_rfl) (by kernel_rfl) (fun _ _ _ h => h) (Or.inl ⟨by rfl, ?_⟩) hHeld ?_
                        · intro u hu
                          go_simp
                        try simp only [Act.put, List.setIfInBounds_toArray, List.set_cons_zero, List.set_cons_succ]
                        refine wpAnyH_take (i := 3) (oi := { dst := some 92, op := Op.load 22 (Operand.tmp 91), type := 22, pos := _, after := #[{ on := 2, ground := Ground.data }], guard := none }) (v := .slice (some ⟨b, 0, none⟩) L.length c) rfl (by kernel_rfl) (by kernel_rfl) (by kernel_rfl) (fun _ _ _ h => h) (Or.inl ⟨by rfl, ?_⟩) hHeld ?_
                        · intro u hu
                          have x1 := (Stp.of_below hu (fun _ => False)).cell z1 id; go_simp
                        try simp only [Act.put, List.setIfInBounds_toArray, List.set_cons_zero, List.set_cons_succ]
                        refine wpAnyH_take (i := 4) (oi := { dst := some 93, op := Op.move (Operand.tmp 12), type := 3, pos := _, after := #[], guard := none }) (v := .int .i64 (i : Int)) rfl (by kernel_rfl) (by kernel_rfl) (by kernel_rfl) (fun _ _ _ h => h) (Or.inl ⟨by rfl, ?_⟩) hHeld ?_
                        · intro u hu
                          go_simp
                        try simp only [Act.put, List.setIfInBounds_toArray, List.set_cons_zero, List.set_cons_succ]
                        refine wpAnyH_take (i := 5) (oi := { dst := some 94, op := Op.indexAddr 22 (Operand.tmp 92) (Operand.tmp 93), type := 0, pos := _, after := #[{ on := 3, ground := Ground.data }, { on := 4, ground := Ground.data }], guard := none }) (v := .pointer (some ⟨b, i * 9, none⟩)) rfl (by kernel_rfl) (by kernel_rfl) (by kernel_rfl) (fun _ _ _ h => h) (Or.inl ⟨by rfl, ?_⟩) hHeld ?_
                        · intro u hu
                          go_simp
                        try simp only [Act.put, List.setIfInBounds_toArray, List.set_cons_zero, List.set_cons_succ]
                        refine wpAnyH_take (i := 6) (oi := { dst := some 95, op := Op.fieldAddr 54 (Operand.tmp 94) 8, type := 0, pos := _, after := #[{ on := 5, ground := Ground.data }], guard := none }) (v := .pointer (some ⟨b, i * 9 + 8, none⟩)) rfl (by kernel_rfl) (by kernel_rfl) (by kernel_rfl) (fun _ _ _ h => h) (Or.inl ⟨by rfl, ?_⟩) hHeld ?_
                        · intro u hu
                          go_simp
                        try simp only [Act.put, List.setIfInBounds_toArray, List.set_cons_zero, List.set_cons_succ]
                        refine wpAnyH_take (i := 7) (oi := { dst := some 96, op := Op.load 4 (Operand.tmp 95), type := 4, pos := _, after := #[{ on := 6, ground := Ground.data }], guard := none }) (v := .bool true) rfl (by kernel_rfl) (by kernel_rfl) (by kernel_rfl) (fun _ _ _ h => h) (Or.inl ⟨by rfl, ?_⟩) hHeld ?_
                        · intro u hu
                          have x1 := (Stp.of_below hu (fun _ => False)).cell (Pe.at9 hrt).2.2.2.2.2.2.2.2 id; rw [hw.out] at x1; go_simp
                        try simp only [Act.put, List.setIfInBounds_toArray, List.set_cons_zero, List.set_cons_succ]
                        refine wpAnyH_take (i := 8) (oi := { dst := some 97, op := Op.unOp UnOp.not 4 (Operand.tmp 96), type := 4, pos := _, after := #[{ on := 7, ground := Ground.data }], guard := none }) (v := .bool false) rfl (by kernel_rfl) (by kernel_rfl) (by kernel_rfl) (fun _ _ _ h => h) (Or.inl ⟨by rfl, ?_⟩) hHeld ?_
                        · intro u hu
                          go_simp
                        try simp only [Act.put, List.setIfInBounds_toArray, List.set_cons_zero, List.set_cons_succ]
                        refine wpAnyH_take (i := 9) (oi := { dst := some 98, op := Op.move (Operand.tmp 97), type := 4, pos := _, after := #[{ on := 8, ground := Ground.data }], guard := none }) (v := .bool false) rfl (by kernel_rfl) (by kernel_rfl) (by kernel_rfl) (fun _ _ _ h => h) (Or.inl ⟨by rfl, ?_⟩) hHeld ?_
                        · intro u hu
                          go_simp
                        try simp only [Act.put, List.setIfInBounds_toArray, List.set_cons_zero, List.set_cons_succ]
                        refine wpAnyH_take (i := 10) (oi := { dst := some 99, op := Op.move (Operand.tmp 0), type := 25, pos := _, after := #[{ on := 9, ground := Ground.guard }], guard := some (9, true) }) (v := undef) rfl (by kernel_rfl) (by kernel_rfl) (by kernel_rfl) (fun _ _ _ h => h)
                          (Or.inr ⟨by rfl, rfl⟩) hHeld ?_
                        try simp only [Act.put, List.setIfInBounds_toArray, List.set_cons_zero, List.set_cons_succ]
                        refine wpAnyH_take (i := 11) (oi := { dst := some 100, op := Op.nilCheck (Operand.tmp 99), type := 0, pos := _, after := #[{ on := 10, ground := Ground.data }, { on := 9, ground := Ground.guard }], guard := some (9, true) }) (v := undef) rfl (by kernel_rfl) (by kernel_rfl) (by kernel_rfl) (fun _ _ _ h => h)
                          (Or.inr ⟨by rfl, rfl⟩) hHeld ?_
                        try simp only [Act.put, List.setIfInBounds_toArray, List.set_cons_zero, List.set_cons_succ]
                        refine wpAnyH_take (i := 12) (oi := { dst := some 101, op := Op.fieldAddr 57 (Operand.tmp 100) 1, type := 0, pos := _, after := #[{ on := 11, ground := Ground.data }, { on := 9, ground := Ground.guard }], guard := some (9, true) }) (v := undef) rfl (by kernel_rfl) (by kernel_rfl) (by kernel_rfl) (fun _ _ _ h => h)
                          (Or.inr ⟨by rfl, rfl⟩) hHeld ?_
                        try simp only [Act.put, List.setIfInBounds_toArray, List.set_cons_zero, List.set_cons_succ]
                        refine wpAnyH_take (i := 13) (oi := { dst := some 102, op := Op.load 22 (Operand.tmp 101), type := 22, pos := _, after := #[{ on := 12, ground := Ground.data }, { on := 9, ground := Ground.guard }], guard := some (9, true) }) (v := undef) rfl (by kernel_rfl) (by kernel_rfl) (by kernel_rfl) (fun _ _ _ h => h)
                          (Or.inr ⟨by rfl, rfl⟩) hHeld ?_
                        try simp only [Act.put, List.setIfInBounds_toArray, List.set_cons_zero, List.set_cons_succ]
                        refine wpAnyH_take (i := 14) (oi := { dst := some 103, op := Op.move (Operand.tmp 12), type := 3, pos := _, after := #[{ on := 9, ground := Ground.guard }], guard := some (9, true) }) (v := undef) rfl (by kernel_rfl) (by kernel_rfl) (by kernel_rfl) (fun _ _ _ h => h)
                          (Or.inr ⟨by rfl, rfl⟩) hHeld ?_
                        try simp only [Act.put, List.setIfInBounds_toArray, List.set_cons_zero, List.set_cons_succ]
                        refine wpAnyH_take (i := 15) (oi := { dst := some 104, op := Op.indexAddr 22 (Operand.tmp 102) (Operand.tmp 103), type := 0, pos := _, after := #[{ on := 13, ground := Ground.data }, { on := 14, ground := Ground.data }, { on := 9, ground := Ground.guard }], guard := some (9, true) }) (v := undef) rfl (by kernel_rfl) (by kernel_rfl) (by kernel_rfl) (fun _ _ _ h => h)
                          (Or.inr ⟨by rfl, rfl⟩) hHeld ?_
                        try simp only [Act.put, List.setIfInBounds_toArray, List.set_cons_zero, List.set_cons_succ]
                        refine wpAnyH_take (i := 16) (oi := { dst := some 105, op := Op.load 54 (Operand.tmp 104), type := 54, pos := _, after := #[{ on := 15, ground := Ground.data }, { on := 9, ground := Ground.guard }], guard := some (9, true) }) (v := undef) rfl (by kernel_rfl) (by kernel_rfl) (by kernel_rfl) (fun _ _ _ h => h)
                          (Or.inr ⟨by rfl, rfl⟩) hHeld ?_
                        try simp only [Act.put, List.setIfInBounds_toArray, List.set_cons_zero, List.set_cons_succ]
                        refine wpAnyH_take (i := 17) (oi := { dst := some 106, op := Op.load 54 (Operand.tmp 9), type := 54, pos := _, after := #[{ on := 9, ground := Ground.guard }], guard := some (9, true) }) (v := undef) rfl (by kernel_rfl) (by kernel_rfl) (by kernel_rfl) (fun _ _ _ h => h)
                          (Or.inr ⟨by rfl, rfl⟩) hHeld ?_
                        try simp only [Act.put, List.setIfInBounds_toArray, List.set_cons_zero, List.set_cons_succ]
                        refine wpAnyH_take (i := 18) (oi := { dst := some 107, op := Op.call { callee := Callee.value (Operand.func 67), args := #[Operand.tmp 105, Operand.tmp 106], argTypes := #[54, 54] }, type := 4, pos := _, after := #[{ on := 16, ground := Ground.data }, { on := 17, ground := Ground.data }, { on := 9, ground := Ground.chain }, { on := 9, ground := Ground.guard }], guard := some (9, true) }) (v := undef) rfl (by kernel_rfl) (by kernel_rfl) (by kernel_rfl) (fun _ _ _ h => h)
                          (Or.inr ⟨by rfl, rfl⟩) hHeld ?_
                        try simp only [Act.put, List.setIfInBounds_toArray, List.set_cons_zero, List.set_cons_succ]
                        refine wpAnyH_take (i := 19) (oi := { dst := some 108, op := Op.pick (Operand.tmp 98) (Operand.tmp 107) (Operand.const (Value.bool false)), type := 4, pos := _, after := #[{ on := 9, ground := Ground.data }, { on := 18, ground := Ground.data }], guard := none }) (v := .bool false) rfl (by kernel_rfl) (by kernel_rfl) (by kernel_rfl) (fun _ _ _ h => h) (Or.inl ⟨by rfl, ?_⟩) hHeld ?_
                        · intro u hu
                          go_simp
                        try simp only [Act.put, List.setIfInBounds_toArray, List.set_cons_zero, List.set_cons_succ]
                        refine wpAnyH_done (by kernel_rfl) ?_ _
                        have I3 := I.to (fun bs h => n4_no h gt3 (by rw [hpw.out, hw.out]; rfl))
                        have I9 := I3.later hHeld
                        have st9 := st.next (Stp.of_below hHeld (fun x => x = r)) (fun x hx => .inl hx)
                        go_wp2_with fail
                        go_roundw
                        case rel => exact ⟨i + 1, by omega, by go_num, I9, st9⟩
                        case measure => simp [intOf]; try omega
                      | false =>
                        cases hm : meet t.p p with
                        | false =>
                          refine wpAnyH_take (i := 0) (oi := { dst := some 89, op := Op.move (Operand.tmp 0), type := 25, pos := _, after := #[], guard := none }) (v := .pointer (some ⟨g, 0, none⟩)) rfl (by kernel_rfl) (by kernel_rfl) (by kernel_rfl) (fun _ _ _ h => h) (Or.inl ⟨by rfl, ?_⟩) hHeld ?_
                          · intro u hu
                            go_simp
                          try simp only [Act.put, List.setIfInBounds_toArray, List.set_cons_zero, List.set_cons_succ]
                          refine wpAnyH_take (i := 1) (oi := { dst := some 90, op := Op.nilCheck (Operand.tmp 89), type := 0, pos := _, after := #[{ on := 0, ground := Ground.data }], guard := none }) (v := .pointer (some ⟨g, 0, none⟩)) rfl (by kernel_rfl) (by kernel_rfl) (by kernel_rfl) (fun _ _ _ h => h) (Or.inl ⟨by rfl, ?_⟩) hHeld ?_
                          · intro u hu
                            go_simp
                          try simp only [Act.put, List.setIfInBounds_toArray, List.set_cons_zero, List.set_cons_succ]
                          refine wpAnyH_take (i := 2) (oi := { dst := some 91, op := Op.fieldAddr 57 (Operand.tmp 90) 1, type := 0, pos := _, after := #[{ on := 1, ground := Ground.data }], guard := none }) (v := .pointer (some ⟨g, 1, none⟩)) rfl (by kernel_rfl) (by kernel_rfl) (by kernel_rfl) (fun _ _ _ h => h) (Or.inl ⟨by rfl, ?_⟩) hHeld ?_
                          · intro u hu
                            go_simp
                          try simp only [Act.put, List.setIfInBounds_toArray, List.set_cons_zero, List.set_cons_succ]
                          refine wpAnyH_take (i := 3) (oi := { dst := some 92, op := Op.load 22 (Operand.tmp 91), type := 22, pos := _, after := #[{ on := 2, ground := Ground.data }], guard := none }) (v := .slice (some ⟨b, 0, none⟩) L.length c) rfl (by kernel_rfl) (by kernel_rfl) (by kernel_rfl) (fun _ _ _ h => h) (Or.inl ⟨by rfl, ?_⟩) hHeld ?_
                          · intro u hu
                            have x1 := (Stp.of_below hu (fun _ => False)).cell z1 id; go_simp
                          try simp only [Act.put, List.setIfInBounds_toArray, List.set_cons_zero, List.set_cons_succ]
                          refine wpAnyH_take (i := 4) (oi := { dst := some 93, op := Op.move (Operand.tmp 12), type := 3, pos := _, after := #[], guard := none }) (v := .int .i64 (i : Int)) rfl (by kernel_rfl) (by kernel_rfl) (by kernel_rfl) (fun _ _ _ h => h) (Or.inl ⟨by rfl, ?_⟩) hHeld ?_
                          · intro u hu
                            go_simp
                          try simp only [Act.put, List.setIfInBounds_toArray, List.set_cons_zero, List.set_cons_succ]
                          refine wpAnyH_take (i := 5) (oi := { dst := some 94, op := Op.indexAddr 22 (Operand.tmp 92) (Operand.tmp 93), type := 0, pos := _, after := #[{ on := 3, ground := Ground.data }, { on := 4, ground := Ground.data }], guard := none }) (v := .pointer (some ⟨b, i * 9, none⟩)) rfl (by kernel_rfl) (by kernel_rfl) (by kernel_rfl) (fun _ _ _ h => h) (Or.inl ⟨by rfl, ?_⟩) hHeld ?_
                          · intro u hu
                            go_simp
                          try simp only [Act.put, List.setIfInBounds_toArray, List.set_cons_zero, List.set_cons_succ]
                          refine wpAnyH_take (i := 6) (oi := { dst := some 95, op := Op.fieldAddr 54 (Operand.tmp 94) 8, type := 0, pos := _, after := #[{ on := 5, ground := Ground.data }], guard := none }) (v := .pointer (some ⟨b, i * 9 + 8, none⟩)) rfl (by kernel_rfl) (by kernel_rfl) (by kernel_rfl) (fun _ _ _ h => h) (Or.inl ⟨by rfl, ?_⟩) hHeld ?_
                          · intro u hu
                            go_simp
                          try simp only [Act.put, List.setIfInBounds_toArray, List.set_cons_zero, List.set_cons_succ]
                          refine wpAnyH_take (i := 7) (oi := { dst := some 96, op := Op.load 4 (Operand.tmp 95), type := 4, pos := _, after := #[{ on := 6, ground := Ground.data }], guard := none }) (v := .bool false) rfl (by kernel_rfl) (by kernel_rfl) (by kernel_rfl) (fun _ _ _ h => h) (Or.inl ⟨by rfl, ?_⟩) hHeld ?_
                          · intro u hu
                            have x1 := (Stp.of_below hu (fun _ => False)).cell (Pe.at9 hrt).2.2.2.2.2.2.2.2 id; rw [hw.out] at x1; go_simp
                          try simp only [Act.put, List.setIfInBounds_toArray, List.set_cons_zero, List.set_cons_succ]
                          refine wpAnyH_take (i := 8) (oi := { dst := some 97, op := Op.unOp UnOp.not 4 (Operand.tmp 96), type := 4, pos := _, after := #[{ on := 7, ground := Ground.data }], guard := none }) (v := .bool true) rfl (by kernel_rfl) (by kernel_rfl) (by kernel_rfl) (fun _ _ _ h => h) (Or.inl ⟨by rfl, ?_⟩) hHeld ?_
                          · intro u hu
                            go_simp
                          try simp only [Act.put, List.setIfInBounds_toArray, List.set_cons_zero, List.set_cons_succ]
                          refine wpAnyH_take (i := 9) (oi := { dst := some 98, op := Op.move (Operand.tmp 97), type := 4, pos := _, after := #[{ on := 8, ground := Ground.data }], guard := none }) (v := .bool true) rfl (by kernel_rfl) (by kernel_rfl) (by kernel_rfl) (fun _ _ _ h => h) (Or.inl ⟨by rfl, ?_⟩) hHeld ?_
                          · intro u hu
                            go_simp
                          try simp only [Act.put, List.setIfInBounds_toArray, List.set_cons_zero, List.set_cons_succ]
                          refine wpAnyH_take (i := 10) (oi := { dst := some 99, op := Op.move (Operand.tmp 0), type := 25, pos := _, after := #[{ on := 9, ground := Ground.guard }], guard := some (9, true) }) (v := .pointer (some ⟨g, 0, none⟩)) rfl (by kernel_rfl) (by kernel_rfl) (by kernel_rfl) (fun _ _ _ h => h) (Or.inl ⟨by rfl, ?_⟩) hHeld ?_
                          · intro u hu
                            go_simp
                          try simp only [Act.put, List.setIfInBounds_toArray, List.set_cons_zero, List.set_cons_succ]
                          refine wpAnyH_take (i := 11) (oi := { dst := some 100, op := Op.nilCheck (Operand.tmp 99), type := 0, pos := _, after := #[{ on := 10, ground := Ground.data }, { on := 9, ground := Ground.guard }], guard := some (9, true) }) (v := .pointer (some ⟨g, 0, none⟩)) rfl (by kernel_rfl) (by kernel_rfl) (by kernel_rfl) (fun _ _ _ h => h) (Or.inl ⟨by rfl, ?_⟩) hHeld ?_
                          · intro u hu
                            go_simp
                          try simp only [Act.put, List.setIfInBounds_toArray, List.set_cons_zero, List.set_cons_succ]
                          refine wpAnyH_take (i := 12) (oi := { dst := some 101, op := Op.fieldAddr 57 (Operand.tmp 100) 1, type := 0, pos := _, after := #[{ on := 11, ground := Ground.data }, { on := 9, ground := Ground.guard }], guard := some (9, true) }) (v := .pointer (some ⟨g, 1, none⟩)) rfl (by kernel_rfl) (by kernel_rfl) (by kernel_rfl) (fun _ _ _ h => h) (Or.inl ⟨by rfl, ?_⟩) hHeld ?_
                          · intro u hu
                            go_simp
                          try simp only [Act.put, List.setIfInBounds_toArray, List.set_cons_zero, List.set_cons_succ]
                          refine wpAnyH_take (i := 13) (oi := { dst := some 102, op := Op.load 22 (Operand.tmp 101), type := 22, pos := _, after := #[{ on := 12, ground := Ground.data }, { on := 9, ground := Ground.guard }], guard := some (9, true) }) (v := .slice (some ⟨b, 0, none⟩) L.length c) rfl (by kernel_rfl) (by kernel_rfl) (by kernel_rfl) (fun _ _ _ h => h) (Or.inl ⟨by rfl, ?_⟩) hHeld ?_
                          · intro u hu
                            have x1 := (Stp.of_below hu (fun _ => False)).cell z1 id; go_simp
                          try simp only [Act.put, List.setIfInBounds_toArray, List.set_cons_zero, List.set_cons_succ]
                          refine wpAnyH_take (i := 14) (oi := { dst := some 103, op := Op.move (Operand.tmp 12), type := 3, pos := _, after := #[{ on := 9, ground := Ground.guard }], guard := some (9, true) }) (v := .int .i64 (i : Int)) rfl (by kernel_rfl) (by kernel_rfl) (by kernel_rfl) (fun _ _ _ h => h) (Or.inl ⟨by rfl, ?_⟩) hHeld ?_
                          · intro u hu
                            go_simp
                          try simp only [Act.put, List.setIfInBounds_toArray, List.set_cons_zero, List.set_cons_succ]
                          refine wpAnyH_take (i := 15) (oi := { dst := some 104, op := Op.indexAddr 22 (Operand.tmp 102) (Operand.tmp 103), type := 0, pos := _, after := #[{ on := 13, ground := Ground.data }, { on := 14, ground := Ground.data }, { on := 9, ground := Ground.guard }], guard := some (9, true) }) (v := .pointer (some ⟨b, i * 9, none⟩)) rfl (by kernel_rfl) (by kernel_rfl) (by kernel_rfl) (fun _ _ _ h => h) (Or.inl ⟨by rfl, ?_⟩) hHeld ?_
                          · intro u hu
                            go_simp
                          try simp only [Act.put, List.setIfInBounds_toArray, List.set_cons_zero, List.set_cons_succ]
                          refine wpAnyH_take (i := 16) (oi := { dst := some 105, op := Op.load 54 (Operand.tmp 104), type := 54, pos := _, after := #[{ on := 15, ground := Ground.data }, { on := 9, ground := Ground.guard }], guard := some (9, true) }) (v := .agg t.cs.toArray) rfl (by kernel_rfl) (by kernel_rfl) (by kernel_rfl) (fun _ _ _ h => h)
                            (yields_E (by rfl) _ (by rfl) b (i * 9) (by rfl) t (fun u hu => (Stp.of_below hu (fun _ => False)).range hrt id)) hHeld ?_
                          try simp only [Act.put, List.setIfInBounds_toArray, List.set_cons_zero, List.set_cons_succ]
                          refine wpAnyH_take (i := 17) (oi := { dst := some 106, op := Op.load 54 (Operand.tmp 9), type := 54, pos := _, after := #[{ on := 9, ground := Ground.guard }], guard := some (9, true) }) (v := .agg (p.cs d ⟨na, p.needs.length, nc⟩).toArray) rfl (by kernel_rfl) (by kernel_rfl) (by kernel_rfl) (fun _ _ _ h => h)
                            (yields_P (by rfl) _ (by rfl) g5 (by rfl) p d ⟨na, p.needs.length, nc⟩ (fun u hu => r8.later hu)) hHeld ?_
                          try simp only [Act.put, List.setIfInBounds_toArray, List.set_cons_zero, List.set_cons_succ]
                          refine wpAnyH_ready (rs := [18]) (by kernel_rfl) (by simp) ?_
                          refine (AllReadyH.cons (o := { dst := some 107, op := Op.call { callee := Callee.value (Operand.func 67), args := #[Operand.tmp 105, Operand.tmp 106], argTypes := #[54, 54] }, type := 4, pos := _, after := #[{ on := 16, ground := Ground.data }, { on := 17, ground := Ground.data }, { on := 9, ground := Ground.chain }, { on := 9, ground := Ground.guard }], guard := some (9, true) }) rfl (fun K hK => ?_) AllReadyH.nil)
                          go_simp
                          refine (hM _).mono ?_
                          rw [hm]
                          rintro e w7 ⟨rfl, q7⟩
                          try go_wp2_with fail
                          refine hK.out _ _ (bnext (by assumption) q7 (Nat.le_refl _)) (fun hHeld => ?_)
                          clear hK K
                          try simp only [Act.put, List.setIfInBounds_toArray, List.set_cons_zero, List.set_cons_succ]
                          refine wpAnyH_take (i := 19) (oi := { dst := some 108, op := Op.pick (Operand.tmp 98) (Operand.tmp 107) (Operand.const (Value.bool false)), type := 4, pos := _, after := #[{ on := 9, ground := Ground.data }, { on := 18, ground := Ground.data }], guard := none }) (v := .bool false) rfl (by kernel_rfl) (by kernel_rfl) (by kernel_rfl) (fun _ _ _ h => h) (Or.inl ⟨by rfl, ?_⟩) hHeld ?_
                          · intro u hu
                            go_simp
                          try simp only [Act.put, List.setIfInBounds_toArray, List.set_cons_zero, List.set_cons_succ]
                          refine wpAnyH_done (by kernel_rfl) ?_ _
                          have I3 := I.to (fun bs h => n4_no h gt3 (by rw [hpw.out, hw.out, hm]; rfl))
                          have I9 := I3.later hHeld
                          have st9 := st.next (Stp.of_below hHeld (fun x => x = r)) (fun x hx => .inl hx)
                          go_wp2_with fail
                          go_roundw
                          case rel => exact ⟨i + 1, by omega, by go_num, I9, st9⟩
                          case measure => simp [intOf]; try omega
                        | true =>
                          refine wpAnyH_take (i := 0) (oi := { dst := some 89, op := Op.move (Operand.tmp 0), type := 25, pos := _, after := #[], guard := none }) (v := .pointer (some ⟨g, 0, none⟩)) rfl (by kernel_rfl) (by kernel_rfl) (by kernel_rfl) (fun _ _ _ h => h) (Or.inl ⟨by rfl, ?_⟩) hHeld ?_
                          · intro u hu
                            go_simp
                          try simp only [Act.put, List.setIfInBounds_toArray, List.set_cons_zero, List.set_cons_succ]
                          refine wpAnyH_take (i := 1) (oi := { dst := some 90, op := Op.nilCheck (Operand.tmp 89), type := 0, pos := _, after := #[{ on := 0, ground := Ground.data }], guard := none }) (v := .pointer (some ⟨g, 0, none⟩)) rfl (by kernel_rfl) (by kernel_rfl) (by kernel_rfl) (fun _ _ _ h => h) (Or.inl ⟨by rfl, ?_⟩) hHeld ?_
                          · intro u hu
                            go_simp
                          try simp only [Act.put, List.setIfInBounds_toArray, List.set_cons_zero, List.set_cons_succ]
                          refine wpAnyH_take (i := 2) (oi := { dst := some 91, op := Op.fieldAddr 57 (Operand.tmp 90) 1, type := 0, pos := _, after := #[{ on := 1, ground := Ground.data }], guard := none }) (v := .pointer (some ⟨g, 1, none⟩)) rfl (by kernel_rfl) (by kernel_rfl) (by kernel_rfl) (fun _ _ _ h => h) (Or.inl ⟨by rfl, ?_⟩) hHeld ?_
                          · intro u hu
                            go_simp
                          try simp only [Act.put, List.setIfInBounds_toArray, List.set_cons_zero, List.set_cons_succ]
                          refine wpAnyH_take (i := 3) (oi := { dst := some 92, op := Op.load 22 (Operand.tmp 91), type := 22, pos := _, after := #[{ on := 2, ground := Ground.data }], guard := none }) (v := .slice (some ⟨b, 0, none⟩) L.length c) rfl (by kernel_rfl) (by kernel_rfl) (by kernel_rfl) (fun _ _ _ h => h) (Or.inl ⟨by rfl, ?_⟩) hHeld ?_
                          · intro u hu
                            have x1 := (Stp.of_below hu (fun _ => False)).cell z1 id; go_simp
                          try simp only [Act.put, List.setIfInBounds_toArray, List.set_cons_zero, List.set_cons_succ]
                          refine wpAnyH_take (i := 4) (oi := { dst := some 93, op := Op.move (Operand.tmp 12), type := 3, pos := _, after := #[], guard := none }) (v := .int .i64 (i : Int)) rfl (by kernel_rfl) (by kernel_rfl) (by kernel_rfl) (fun _ _ _ h => h) (Or.inl ⟨by rfl, ?_⟩) hHeld ?_
                          · intro u hu
                            go_simp
                          try simp only [Act.put, List.setIfInBounds_toArray, List.set_cons_zero, List.set_cons_succ]
                          refine wpAnyH_take (i := 5) (oi := { dst := some 94, op := Op.indexAddr 22 (Operand.tmp 92) (Operand.tmp 93), type := 0, pos := _, after := #[{ on := 3, ground := Ground.data }, { on := 4, ground := Ground.data }], guard := none }) (v := .pointer (some ⟨b, i * 9, none⟩)) rfl (by kernel_rfl) (by kernel_rfl) (by kernel_rfl) (fun _ _ _ h => h) (Or.inl ⟨by rfl, ?_⟩) hHeld ?_
                          · intro u hu
                            go_simp
                          try simp only [Act.put, List.setIfInBounds_toArray, List.set_cons_zero, List.set_cons_succ]
                          refine wpAnyH_take (i := 6) (oi := { dst := some 95, op := Op.fieldAddr 54 (Operand.tmp 94) 8, type := 0, pos := _, after := #[{ on := 5, ground := Ground.data }], guard := none }) (v := .pointer (some ⟨b, i * 9 + 8, none⟩)) rfl (by kernel_rfl) (by kernel_rfl) (by kernel_rfl) (fun _ _ _ h => h) (Or.inl ⟨by rfl, ?_⟩) hHeld ?_
                          · intro u hu
                            go_simp
                          try simp only [Act.put, List.setIfInBounds_toArray, List.set_cons_zero, List.set_cons_succ]
                          refine wpAnyH_take (i := 7) (oi := { dst := some 96, op := Op.load 4 (Operand.tmp 95), type := 4, pos := _, after := #[{ on := 6, ground := Ground.data }], guard := none }) (v := .bool false) rfl (by kernel_rfl) (by kernel_rfl) (by kernel_rfl) (fun _ _ _ h => h) (Or.inl ⟨by rfl, ?_⟩) hHeld ?_
                          · intro u hu
                            have x1 := (Stp.of_below hu (fun _ => False)).cell (Pe.at9 hrt).2.2.2.2.2.2.2.2 id; rw [hw.out] at x1; go_simp
                          try simp only [Act.put, List.setIfInBounds_toArray, List.set_cons_zero, List.set_cons_succ]
                          refine wpAnyH_take (i := 8) (oi := { dst := some 97, op := Op.unOp UnOp.not 4 (Operand.tmp 96), type := 4, pos := _, after := #[{ on := 7, ground := Ground.data }], guard := none }) (v := .bool true) rfl (by kernel_rfl) (by kernel_rfl) (by kernel_rfl) (fun _ _ _ h => h) (Or.inl ⟨by rfl, ?_⟩) hHeld ?_
                          · intro u hu
                            go_simp
                          try simp only [Act.put, List.setIfInBounds_toArray, List.set_cons_zero, List.set_cons_succ]
                          refine wpAnyH_take (i := 9) (oi := { dst := some 98, op := Op.move (Operand.tmp 97), type := 4, pos := _, after := #[{ on := 8, ground := Ground.data }], guard := none }) (v := .bool true) rfl (by kernel_rfl) (by kernel_rfl) (by kernel_rfl) (fun _ _ _ h => h) (Or.inl ⟨by rfl, ?_⟩) hHeld ?_
                          · intro u hu
                            go_simp
                          try simp only [Act.put, List.setIfInBounds_toArray, List.set_cons_zero, List.set_cons_succ]
                          refine wpAnyH_take (i := 10) (oi := { dst := some 99, op := Op.move (Operand.tmp 0), type := 25, pos := _, after := #[{ on := 9, ground := Ground.guard }], guard := some (9, true) }) (v := .pointer (some ⟨g, 0, none⟩)) rfl (by kernel_rfl) (by kernel_rfl) (by kernel_rfl) (fun _ _ _ h => h) (Or.inl ⟨by rfl, ?_⟩) hHeld ?_
                          · intro u hu
                            go_simp
                          try simp only [Act.put, List.setIfInBounds_toArray, List.set_cons_zero, List.set_cons_succ]
                          refine wpAnyH_take (i := 11) (oi := { dst := some 100, op := Op.nilCheck (Operand.tmp 99), type := 0, pos := _, after := #[{ on := 10, ground := Ground.data }, { on := 9, ground := Ground.guard }], guard := some (9, true) }) (v := .pointer (some ⟨g, 0, none⟩)) rfl (by kernel_rfl) (by kernel_rfl) (by kernel_rfl) (fun _ _ _ h => h) (Or.inl ⟨by rfl, ?_⟩) hHeld ?_
                          · intro u hu
                            go_simp
                          try simp only [Act.put, List.setIfInBounds_toArray, List.set_cons_zero, List.set_cons_succ]
                          refine wpAnyH_take (i := 12) (oi := { dst := some 101, op := Op.fieldAddr 57 (Operand.tmp 100) 1, type := 0, pos := _, after := #[{ on := 11, ground := Ground.data }, { on := 9, ground := Ground.guard }], guard := some (9, true) }) (v := .pointer (some ⟨g, 1, none⟩)) rfl (by kernel_rfl) (by kernel_rfl) (by kernel_rfl) (fun _ _ _ h => h) (Or.inl ⟨by rfl, ?_⟩) hHeld ?_
                          · intro u hu
                            go_simp
                          try simp only [Act.put, List.setIfInBounds_toArray, List.set_cons_zero, List.set_cons_succ]
                          refine wpAnyH_take (i := 13) (oi := { dst := some 102, op := Op.load 22 (Operand.tmp 101), type := 22, pos := _, after := #[{ on := 12, ground := Ground.data }, { on := 9, ground := Ground.guard }], guard := some (9, true) }) (v := .slice (some ⟨b, 0, none⟩) L.length c) rfl (by kernel_rfl) (by kernel_rfl) (by kernel_rfl) (fun _ _ _ h => h) (Or.inl ⟨by rfl, ?_⟩) hHeld ?_
                          · intro u hu
                            have x1 := (Stp.of_below hu (fun _ => False)).cell z1 id; go_simp
                          try simp only [Act.put, List.setIfInBounds_toArray, List.set_cons_zero, List.set_cons_succ]
                          refine wpAnyH_take (i := 14) (oi := { dst := some 103, op := Op.move (Operand.tmp 12), type := 3, pos := _, after := #[{ on := 9, ground := Ground.guard }], guard := some (9, true) }) (v := .int .i64 (i : Int)) rfl (by kernel_rfl) (by kernel_rfl) (by kernel_rfl) (fun _ _ _ h => h) (Or.inl ⟨by rfl, ?_⟩) hHeld ?_
                          · intro u hu
                            go_simp
                          try simp only [Act.put, List.setIfInBounds_toArray, List.set_cons_zero, List.set_cons_succ]
                          refine wpAnyH_take (i := 15) (oi := { dst := some 104, op := Op.indexAddr 22 (Operand.tmp 102) (Operand.tmp 103), type := 0, pos := _, after := #[{ on := 13, ground := Ground.data }, { on := 14, ground := Ground.data }, { on := 9, ground := Ground.guard }], guard := some (9, true) }) (v := .pointer (some ⟨b, i * 9, none⟩)) rfl (by kernel_rfl) (by kernel_rfl) (by kernel_rfl) (fun _ _ _ h => h) (Or.inl ⟨by rfl, ?_⟩) hHeld ?_
                          · intro u hu
                            go_simp
                          try simp only [Act.put, List.setIfInBounds_toArray, List.set_cons_zero, List.set_cons_succ]
                          refine wpAnyH_take (i := 16) (oi := { dst := some 105, op := Op.load 54 (Operand.tmp 104), type := 54, pos := _, after := #[{ on := 15, ground := Ground.data }, { on := 9, ground := Ground.guard }], guard := some (9, true) }) (v := .agg t.cs.toArray) rfl (by kernel_rfl) (by kernel_rfl) (by kernel_rfl) (fun _ _ _ h => h)
                            (yields_E (by rfl) _ (by rfl) b (i * 9) (by rfl) t (fun u hu => (Stp.of_below hu (fun _ => False)).range hrt id)) hHeld ?_
                          try simp only [Act.put, List.setIfInBounds_toArray, List.set_cons_zero, List.set_cons_succ]
                          refine wpAnyH_take (i := 17) (oi := { dst := some 106, op := Op.load 54 (Operand.tmp 9), type := 54, pos := _, after := #[{ on := 9, ground := Ground.guard }], guard := some (9, true) }) (v := .agg (p.cs d ⟨na, p.needs.length, nc⟩).toArray) rfl (by kernel_rfl) (by kernel_rfl) (by kernel_rfl) (fun _ _ _ h => h)
                            (yields_P (by rfl) _ (by rfl) g5 (by rfl) p d ⟨na, p.needs.length, nc⟩ (fun u hu => r8.later hu)) hHeld ?_
                          try simp only [Act.put, List.setIfInBounds_toArray, List.set_cons_zero, List.set_cons_succ]
                          refine wpAnyH_ready (rs := [18]) (by kernel_rfl) (by simp) ?_
                          refine (AllReadyH.cons (o := { dst := some 107, op := Op.call { callee := Callee.value (Operand.func 67), args := #[Operand.tmp 105, Operand.tmp 106], argTypes := #[54, 54] }, type := 4, pos := _, after := #[{ on := 16, ground := Ground.data }, { on := 17, ground := Ground.data }, { on := 9, ground := Ground.chain }, { on := 9, ground := Ground.guard }], guard := some (9, true) }) rfl (fun K hK => ?_) AllReadyH.nil)
                          go_simp
                          refine (hM _).mono ?_
                          rw [hm]
                          rintro e w7 ⟨rfl, q7⟩
                          try go_wp2_with fail
                          refine hK.out _ _ (bnext (by assumption) q7 (Nat.le_refl _)) (fun hHeld => ?_)
                          clear hK K
                          try simp only [Act.put, List.setIfInBounds_toArray, List.set_cons_zero, List.set_cons_succ]
                          refine wpAnyH_take (i := 19) (oi := { dst := some 108, op := Op.pick (Operand.tmp 98) (Operand.tmp 107) (Operand.const (Value.bool false)), type := 4, pos := _, after := #[{ on := 9, ground := Ground.data }, { on := 18, ground := Ground.data }], guard := none }) (v := .bool true) rfl (by kernel_rfl) (by kernel_rfl) (by kernel_rfl) (fun _ _ _ h => h) (Or.inl ⟨by rfl, ?_⟩) hHeld ?_
                          · intro u hu
                            go_simp
                          try simp only [Act.put, List.setIfInBounds_toArray, List.set_cons_zero, List.set_cons_succ]
                          refine wpAnyH_done (by kernel_rfl) ?_ _
                          have Ih := I.later hHeld
                          have cy := Ih.cell gt3
                          have fy := Ih.froz i
                          obtain ⟨I9, s9⟩ := Ih.set i a1 (fun bs h => n4_yes h gt3 (by rw [hpw.out, hw.out, hm]; rfl))
                          have st9 := (st.next (Stp.of_below hHeld (fun x => x = r)) (fun x hx => .inl hx)).next s9 (fun x hx => .inl hx)
                          go_wp2_with fail
                          go_roundw
                          case rel => exact ⟨i + 1, by omega, by go_num, I9, st9⟩
                          case measure => simp [intOf]; try omega
                  · have p9 : ¬ (i : Int) < (k : Int) := by omega
                    have I2 := I.to (fun bs h => n4_end h hget (.inl (by omega)) hi hy.out)
                    clear c8
                    go_wp2_with fail
                    go_roundw
                    case rel => exact ⟨k, by omega, by go_num, I2⟩
                    case measure => simp [intOf]; try omega
end Go.Proofs.YtdfifneikmlmoaaGreat
namespace Go.Proofs.YtdfifneikmlmoaaGreat
open Go.ChangeShapes Go.WideShapes Go.ChangeAt Go.RowKit
set_option linter.unusedVariables false
set_option linter.unusedSimpArgs false

theorem up2 {f : FuncId} {args : Array Value} {w : World} {l l' : List Int} (h : Calls Tryz.prog f args w fun e w' => ∃ v, e = .returned v ∧ OwV w' v l ∧ New w.heap.size v ∧ Below w.heap.size w w') (e : l = l') (hw : ∀ x ∈ l', wfi x) :
    Calls Tryz.prog f args w fun e w' => ∃ s : Sv, e = .returned (.slice s.a s.n s.c) ∧ InsS w' s l' ∧ Below w.heap.size w w' ∧ InE (fun x => w.heap.size ≤ x ∧ x < w'.heap.size) s := by
  subst e
  refine h.mono ?_
  rintro e w' ⟨v, rfl, o, n, b⟩
  obtain ⟨s, rfl, _, i, e⟩ := o.ins hw n
  exact ⟨s, rfl, i, b, e⟩
theorem rdS_len (l : List Pt) : ∀ (W late : List Pt), (rdS l late W).length ≤ W.length
  | [], _ => by simp [rdS]
  | a :: t, late => by
    unfold rdS
    split
    · have := rdS_len l t (late ++ [a]); simp; omega
    · have := rdS_len l t late; simp; omega
theorem wf_ids {Z : GZ} (ok : Z.ok 2000) (q : Pt → Bool) : ∀ x ∈ ids (Z.l.filter q), wfi x := fun x hx => by
  unfold ids at hx
  obtain ⟨p, hp, rfl⟩ := List.mem_map.1 hx
  exact (ok.wfp (List.mem_filter.1 hp).1).i
theorem wf_rdy {Z : GZ} (ok : Z.ok 2000) (s : Int) : ∀ x ∈ rdy Z.l s, wfi x := fun x hx => by
  unfold rdy ids at hx
  obtain ⟨p, hp, rfl⟩ := List.mem_map.1 hx
  exact (ok.wfp (wtP_mem.1 (rdS_sub _ _ _ p hp)).1).i
theorem wf_nd {Z : GZ} (ok : Z.ok 2000) (is : List Int) : ∀ x ∈ ids (nd is Z.l), wfi x := fun x hx => by
  unfold ids at hx
  obtain ⟨p, hp, rfl⟩ := List.mem_map.1 hx
  exact (ok.wfp (nd_sub is _ p hp)).i
theorem wf_secs {Z : GZ} (ok : Z.ok 2000) : ∀ x ∈ secs Z.l, wfi x := fun x hx => by
  have h1 := secs_mem.1 hx
  obtain ⟨y, hy⟩ := List.exists_mem_of_ne_nil _ h1
  obtain ⟨p, q1, q2, q3, _⟩ := wts_mem.1 hy
  have := fit_to (ok.ft p q1)
  exact wfi_of (by omega)
theorem len_ids {Z : GZ} (ok : Z.ok 2000) (q : Pt → Bool) : (ids (Z.l.filter q)).length ≤ 100000 := by
  unfold ids
  rw [List.length_map]
  have := List.length_filter_le q Z.l
  have := ok.few
  omega
theorem len_rdy {Z : GZ} (ok : Z.ok 2000) (s : Int) : (rdy Z.l s).length ≤ 100000 := by
  unfold rdy ids
  rw [List.length_map]
  have := rdS_len Z.l (wtP Z.l s) []
  have := ok.fewW s
  omega
theorem len_nd {Z : GZ} (ok : Z.ok 2000) (is : List Int) : (ids (nd is Z.l)).length ≤ 100000 := by
  rw [ids_len]
  have := nd_len is Z.l
  have := ok.few
  omega
theorem len_secs {Z : GZ} (ok : Z.ok 2000) : (secs Z.l).length ≤ 100000 := by
  have := secs_len ok
  omega
theorem wf_last {Z : GZ} (ok : Z.ok 2000) : wfi Z.last := wfi_of (by have := ok.l0; have := ok.lt; omega)
theorem two_i (w : World) (x y : Int) (hx : wfi x) (hy : wfi y) : InsS (w.alloc (.cells #[.int .i64 x, .int .i64 y] 3)) ⟨some ⟨w.heap.size, 0, none⟩, 2, 2⟩ [x, y] := by
  have h := Cs.made w [.int .i64 x, .int .i64 y] 3 (by simp [Value.oneCell'])
  refine ⟨⟨rfl, Nat.le_refl _, (show 2 ≤ maxLen by decide), ?_, fun _ => ⟨w.heap.size, 0, rfl, fun i hi => ?_⟩⟩, fun e => by cases e⟩
  rotate_left
  · simp only at hi
    have h2 : i = 0 ∨ i = 1 := by omega
    rcases h2 with rfl | rfl
    · exact h.cell 0 _ rfl
    · exact h.cell 1 _ rfl
  · intro z hz
    simp at hz
    rcases hz with rfl | rfl
    · exact hx
    · exact hy
theorem cs2_ins {w : World} {g : Nat} {x y : Int} (h : Cs w g [.int .i64 x, .int .i64 y]) (hx : wfi x) (hy : wfi y) : InsS w ⟨some ⟨g, 0, none⟩, 2, 2⟩ [x, y] := by
  refine ⟨⟨rfl, Nat.le_refl _, (show 2 ≤ maxLen by decide), ?_, fun _ => ⟨g, 0, rfl, fun i hi => ?_⟩⟩, fun e => by cases e⟩
  rotate_left
  · simp only at hi
    have h2 : i = 0 ∨ i = 1 := by omega
    rcases h2 with rfl | rfl
    · exact h.cell 0 _ rfl
    · exact h.cell 1 _ rfl
  · intro z hz
    simp at hz
    rcases hz with rfl | rfl
    · exact hx
    · exact hy
theorem build_two (x y : Int) (w : World) : (Instr.buildSlice 23 2 #[(0, .int .i64 x), (1, .int .i64 y)]).run Tryz.prog w = .ok (.slice (some ⟨w.heap.size, 0, none⟩) 2 2) (w.alloc (.cells #[.int .i64 x, .int .i64 y] 3)) := by kernel_rfl
theorem step_bs2I {ops : Array Oper} {o : Oper} {a : Act} {w : World} {K : Act → World → Prop} {Q : Exit → Act → World → Prop} {R : Prop} (hw : Region.wanted o (yielded ops a.tmps) = true) (u v : Operand) (ho : o.op = .buildSlice 23 2 #[(0, u), (1, v)]) (x y : Int) (hx : a.eval u = .int .i64 x) (hy : a.eval v = .int .i64 y)
    (h : ∀ g w', w.heap.size ≤ g → g < w'.heap.size → Cs w' g [.int .i64 x, .int .i64 y] → Below w.heap.size w w' → K (a.put o.dst (.slice (some ⟨g, 0, none⟩) 2 2)) w') : if Region.wanted o (yielded ops a.tmps) = true then Oper.wp Tryz.prog o a w K Q else R := by
  rw [if_pos hw]
  have hr : (execOp a.eval o).run Tryz.prog w = .ok (.value (.slice (some ⟨w.heap.size, 0, none⟩) 2 2)) (w.alloc (.cells #[.int .i64 x, .int .i64 y] 3)) := by simp [execOp, ho, hx, hy, build_two]
  unfold Oper.wp
  rw [hr]
  exact h w.heap.size _ (Nat.le_refl _) (by simp) (Cs.made w [.int .i64 x, .int .i64 y] 3 (by simp [Value.oneCell'])) ((Below.refl _ _).alloc (Nat.le_refl _) _)
end Go.Proofs.YtdfifneikmlmoaaGreat
namespace Go.Proofs.YtdfifneikmlmoaaGreat
open Go.ChangeShapes Go.WideShapes Go.ChangeAt Go.RowKit
set_option linter.unusedVariables false
set_option linter.unusedSimpArgs false

theorem Rh.step {w w' : World} {h : Nat} {Z : GZ} {R F : Nat → Prop} (H : Rh w h Z R) (k : Stp F w w') (hg : ¬ F h) (hR : ∀ x, R x → ¬ F x) : Rh w' h Z R := by
  obtain ⟨a, c, L, H⟩ := H
  exact ⟨a, c, L, H.step k hg hR⟩
theorem Rh.later {w w' : World} {h : Nat} {Z : GZ} {R : Nat → Prop} (H : Rh w h Z R) (k : Below w.heap.size w w') : Rh w' h Z R := H.step (Stp.of_below k (fun _ => False)) id (fun _ _ => id)
theorem Rh.lt {w : World} {h : Nat} {Z : GZ} {R : Nat → Prop} (H : Rh w h Z R) : h < w.heap.size ∧ ∀ x, R x → x < w.heap.size := by
  obtain ⟨a, c, L, H⟩ := H
  exact ⟨H.cc.lt, H.lt⟩
theorem Rh.last {w : World} {h : Nat} {Z : GZ} {R : Nat → Prop} (H : Rh w h Z R) : w.cell? ⟨h, 0, none⟩ = some (.int .i64 Z.last) := by
  obtain ⟨a, c, L, H⟩ := H
  exact H.cells.1
theorem Gh.ok {w : World} {g : Nat} {Z : GZ} {E F : Nat → Prop} (H : Gh w g Z E F) : Z.ok 2000 := by obtain ⟨_, _, _, _, H⟩ := H; exact H.ok
theorem Gh.lt {w : World} {g : Nat} {Z : GZ} {E F : Nat → Prop} (H : Gh w g Z E F) : (∀ x, F x → x < w.heap.size) ∧ (∀ x, E x → x < w.heap.size) ∧ ∀ x, E x → ¬ F x := by obtain ⟨_, _, _, _, H⟩ := H; exact ⟨H.lt, H.el, H.ef⟩
/-- Both graphs, with the same patches, apart, and behind N. -/
structure Bx (N : Nat) (w : World) (g h : Nat) (Z : GZ) (k : Nat) (E F R : Nat → Prop) : Prop where
  gh : Gh w g Z E F
  rh : Rh w h Z R
  hF : ∀ x, F x → N ≤ x ∧ x ≠ h ∧ ¬ R x
  hE : ∀ x, E x → N ≤ x ∧ x ≠ h
  hR : ∀ x, R x → N ≤ x
  hN : N ≤ h
  n6 : ∀ p ∈ Z.l, p.needs.length ≤ 6
  la : Z.last ≤ (k : Int)
section
variable {N g h k k' : Nat} {w w1 w2 w3 : World} {Z Z' : GZ} {E F R E' F' R3 : Nat → Prop}
theorem Bx.later (B : Bx N w g h Z k E F R) (b : Below w.heap.size w w1) : Bx N w1 g h Z k E F R := ⟨B.gh.later b, B.rh.later b, B.hF, B.hE, B.hR, B.hN, B.n6, B.la⟩
theorem Bx.few (B : Bx N w g h Z k E F R) : (Z.l.length : Int) ≤ k := by
  have ok := B.gh.ok
  have := rising_len Z.l 0 Z.last ok.srt (fun p hp => by have := ok.rng p hp; omega) ok.l0
  have := B.la
  omega
theorem Bx.nl (B : Bx N w g h Z k E F R) : ∀ p ∈ Z.l, p.needs.length ≤ 100000 := fun p hp => by have := B.n6 p hp; omega
theorem Bx.size (B : Bx N w g h Z k E F R) : N ≤ w.heap.size := by have := B.hN; have := B.rh.lt.1; omega
/-- The code's graph goes on, then the document's. -/
theorem Bx.pair (B : Bx N w g h Z k E F R) (gh : Gh w1 g Z' E' F') (s1 : Stp F w w1) (gF : Grew F F' w w1) (gE : Grew E E' w w1) (b12 : Below w1.heap.size w1 w2) (rh : Rh w3 h Z' R3) (hR3 : ∀ x, R3 x → R x ∨ Made w2 w3 x) (s3 : Stp (fun x => x = h) w2 w3) (n6 : ∀ p ∈ Z'.l, p.needs.length ≤ 6) (la : Z'.last ≤ (k' : Int)) :
    Bx N w3 g h Z' k' E' F' R3 ∧ Stp (fun y => F y ∨ y = h) w w3 := by
  obtain ⟨h1, h2⟩ := B.rh.lt
  obtain ⟨f1, e1, _⟩ := B.gh.lt
  have hNw := B.size
  have z1 := s1.size
  have z2 := b12.size
  have neh : ∀ x, F' x → ¬ x = h := fun x hx e => by
    rcases gF x hx with q | q
    · exact (B.hF x q).2.1 e
    · omega
  have neE : ∀ x, E' x → ¬ x = h := fun x hx e => by
    rcases gE x hx with q | q
    · exact (B.hE x q).2 e
    · omega
  refine ⟨⟨(gh.later b12).step s3 neh neE, rh, fun x hx => ⟨?_, neh x hx, fun hr => ?_⟩, fun x hx => ⟨?_, neE x hx⟩, fun x hx => ?_, B.hN, n6, la⟩, ?_⟩
  · rcases gF x hx with q | q
    · exact (B.hF x q).1
    · omega
  · rcases gF x hx with q | q
    · rcases hR3 x hr with r | r
      · exact (B.hF x q).2.2 r
      · have := f1 x q; have := r.1; omega
    · rcases hR3 x hr with r | r
      · have := h2 x r; omega
      · have := r.1; omega
  · rcases gE x hx with q | q
    · exact (B.hE x q).1
    · omega
  · rcases hR3 x hx with r | r
    · exact B.hR x r
    · have := r.1; omega
  · exact ((s1.mono (fun x e => .inl (.inl e))).trans (Stp.of_below b12 _)).trans (s3.mono (fun x e => .inl (.inr e)))
theorem Bx.low (B : Bx N w g h Z k E F R) (s : Stp (fun y => F y ∨ y = h) w w1) : Below N w w1 := s.below B.size (fun x e => by rcases e with e | e; exact (B.hF x e).1; rw [e]; exact B.hN)
end
theorem add_n6 {Z : GZ} (h : ∀ p ∈ Z.l, p.needs.length ≤ 6) (p : Pt) (hp : p.needs.length ≤ 6) : ∀ q ∈ (Z.add p).l, q.needs.length ≤ 6 := by
  unfold GZ.add
  split
  · intro q hq
    rcases List.mem_append.1 hq with hq | hq
    · exact h q hq
    · rw [List.mem_singleton.1 hq]; exact hp
  · exact h
theorem add_la {Z : GZ} {k : Nat} (h : Z.last ≤ (k : Int)) (p : Pt) : (Z.add p).last ≤ ((k + 1 : Nat) : Int) := by
  unfold GZ.add
  split
  · simp only; omega
  · omega
end Go.Proofs.YtdfifneikmlmoaaGreat
namespace Go.Proofs.YtdfifneikmlmoaaGreat
open Go.ChangeShapes Go.WideShapes Go.ChangeAt Go.RowKit
set_option linter.unusedVariables false
set_option linter.unusedSimpArgs false

/-- A slice that reads as the patches L; what it holds lies in E. -/
structure Ps (w : World) (E : Nat → Prop) (s : Sv) (L : List Pe) : Prop where
  len : L.length = s.n
  le : s.n ≤ s.c
  cap : s.c ≤ maxLen
  nil : s.a = none → s.c = 0
  cell : 0 < s.n → ∃ b o, s.a = some ⟨b, o, none⟩ ∧ E b ∧ ∀ i (t : Pe), L[i]? = some t → w.rangeAt b (o + i * 9) t.cs
  wf : ∀ t ∈ L, t.p.wfp
  ms : ∀ t ∈ L, PtM w E t.p t.d t.n
theorem Ps.step {w w' : World} {E F : Nat → Prop} {s : Sv} {L : List Pe} (h : Ps w E s L) (k : Stp F w w') (hE : ∀ x, E x → ¬ F x) : Ps w' E s L :=
  ⟨h.len, h.le, h.cap, h.nil, fun hn => by
    obtain ⟨b, o, e, hb, hc⟩ := h.cell hn
    exact ⟨b, o, e, hb, fun i t ht => k.range (hc i t ht) (hE b hb)⟩, h.wf, fun t ht => (h.ms t ht).step k hE⟩
theorem Ps.later {w w' : World} {E : Nat → Prop} {s : Sv} {L : List Pe} (h : Ps w E s L) (k : Below w.heap.size w w') : Ps w' E s L := h.step (Stp.of_below k (fun _ => False)) (fun _ _ => id)
theorem Ps.mono {w : World} {E E' : Nat → Prop} {s : Sv} {L : List Pe} (h : Ps w E s L) (k : ∀ x, E x → E' x) : Ps w E' s L :=
  ⟨h.len, h.le, h.cap, h.nil, fun hn => by
    obtain ⟨b, o, e, hb, hc⟩ := h.cell hn
    exact ⟨b, o, e, k b hb, hc⟩, h.wf, fun t ht => (h.ms t ht).mono k⟩
theorem Ps.nilS (w : World) (E : Nat → Prop) : Ps w E Sv.nil [] :=
  ⟨rfl, Nat.le_refl _, Nat.zero_le _, fun _ => rfl, fun h => absurd h (by decide), (fun t ht => by cases ht), (fun t ht => by cases ht)⟩
/-- The patches themselves. -/
def pts (L : List Pe) : List Pt := L.map (·.p)
end Go.Proofs.YtdfifneikmlmoaaGreat
namespace Go.Proofs.YtdfifneikmlmoaaGreat
open Go.ChangeShapes Go.WideShapes Go.ChangeAt Go.RowKit
set_option linter.unusedVariables false
set_option linter.unusedSimpArgs false

section
variable {H : Type} {enc : TypeId × Value → H} {w : World} {base : Nat} {spare : Nat → Bool} {held : Bool}
theorem pts_of_trod {fuel : Nat} {cs : List Value} {x : DataW H × List MemPlace} (h : DataW.trod enc Tryz.prog w base spare held fuel 22 cs = some x) : ∃ a n c L, cs = [.slice a n c] ∧ Ps w (fun x => x < w.heap.size) ⟨a, n, c⟩ L := by
  have inE : ∀ (s : Sv) (l : List Int), BsS w s l → InE (fun x => x < w.heap.size) s := fun s l hs ad e hn => by
    obtain ⟨b, o, e2, hc⟩ := hs.cell hn
    rw [e] at e2; injection e2 with e2; subst e2
    exact World.block_lt_of_cell? w _ (hc 0 hn)
  have inI : ∀ (s : Sv) (l : List Int), InsS w s l → InE (fun x => x < w.heap.size) s := fun s l hs ad e hn => by
    obtain ⟨b, o, e2, hc⟩ := hs.i.cell hn
    rw [e] at e2; injection e2 with e2; subst e2
    exact World.block_lt_of_cell? w _ (hc 0 hn)
  rcases Deep.open_slice (e := 54) (by kernel_rfl) h with ⟨hcs, _⟩ | ⟨a, len, cap, m, n, D, Pl, hcs, _, hl, hm, hmm, _, hx⟩
  · exact ⟨none, 0, 0, [], hcs, Ps.nilS _ _⟩
  · have c9 : Tryz.prog.cellsOf 54 = 9 := by kernel_rfl
    have hlm : len ≤ m := by rw [hmm]; split <;> omega
    have each : ∀ i, i < len → ∃ y : Pe, (∀ j v, y.cs[j]? = some v → w.cell? (a.add (i * 9 + j)) = some v) ∧ y.p.wfp ∧ BsS w y.d y.p.data ∧ InsS w y.n y.p.needs := fun i hi => by
      obtain ⟨cs', h1, h2⟩ := hx i (by omega)
      rw [c9] at h1
      obtain ⟨p, d, n, e1, e2, e3, e4⟩ := pt_of_trod h2
      obtain ⟨_, hlen, hcell⟩ := World.cells?_some h1
      refine ⟨⟨p, d, n⟩, fun j v hv => ?_, e2, e3, e4⟩
      have hj : j < 9 := by have := (List.getElem?_eq_some_iff.1 hv).1; rw [Pe.cs_len] at this; exact this
      have := hcell j hj
      have e1' : (⟨p, d, n⟩ : Pe).cs = cs' := e1
      rw [Deep.add_add, ← e1', hv] at this
      exact this
    have hspec : ∀ t ∈ ((List.range len).map fun i => if hi : i < len then Classical.choose (each i hi) else Pe.zero), t.p.wfp ∧ BsS w t.d t.p.data ∧ InsS w t.n t.p.needs := fun t ht => by
      obtain ⟨i, hi, rfl⟩ := List.mem_map.1 ht
      have hi' : i < len := by simpa using hi
      simp only [dif_pos hi']
      exact (Classical.choose_spec (each i hi')).2
    refine ⟨_, _, _, (List.range len).map fun i => if hi : i < len then Classical.choose (each i hi) else Pe.zero, hcs, by simp, hl, hm, (fun e => by cases e), fun hn => ?_, fun t ht => (hspec t ht).1, fun t ht => ⟨(hspec t ht).2.1, (hspec t ht).2.2, inE _ _ (hspec t ht).2.1, inI _ _ (hspec t ht).2.2⟩⟩
    obtain ⟨b, o, spot⟩ := a
    have h00 : w.cell? ((⟨b, o, spot⟩ : Addr).add (0 * 9 + 0)) ≠ none := by
      obtain ⟨y, hy, _⟩ := each 0 hn
      rw [hy 0 (.int .i64 y.p.id) rfl]; simp
    have hspot : spot = none := by
      obtain ⟨y, hy, _⟩ := each 0 hn
      have := hy 0 (.int .i64 y.p.id) rfl
      simpa [Addr.add] using World.cell?_spot this
    subst hspot
    have hblt : b < w.heap.size := by
      obtain ⟨y, hy, _⟩ := each 0 hn
      have := hy 0 (.int .i64 y.p.id) rfl
      exact World.block_lt_of_cell? w _ this
    refine ⟨b, o, rfl, hblt, fun i t ht => ?_⟩
    have hi : i < len := by have := (List.getElem?_eq_some_iff.1 ht).1; simpa using this
    rw [List.getElem?_map, List.getElem?_range hi] at ht
    simp only [Option.map_some, dif_pos hi, Option.some.injEq] at ht
    subst ht
    intro j v hv
    have := (Classical.choose_spec (each i hi)).1 j v hv
    rw [Addr.add_mid] at this
    rw [show o + i * 9 + j = o + (i * 9 + j) by omega]; exact this
end
end Go.Proofs.YtdfifneikmlmoaaGreat
namespace Go.Proofs.YtdfifneikmlmoaaGreat
open Go.ChangeShapes Go.WideShapes Go.ChangeAt Go.RowKit
set_option linter.unusedVariables false
set_option linter.unusedSimpArgs false

/-- The first k numbers are others. -/
def mpL (f : Int → Int) (l : List Int) (k : Nat) : List Int := (l.take k).map f ++ l.drop k
theorem mpL_len (f : Int → Int) (l : List Int) (k : Nat) : (mpL f l k).length = l.length := by unfold mpL; simp; omega
theorem mpL_zero (f : Int → Int) (l : List Int) : mpL f l 0 = l := by unfold mpL; simp
theorem mpL_get {f : Int → Int} {l : List Int} {k : Nat} (h : k < l.length) : (mpL f l k).getD k 0 = l.getD k 0 := by
  unfold mpL
  rw [List.getD_eq_getElem?_getD, List.getElem?_append_right (by simp; omega), List.getElem?_drop, List.getD_eq_getElem?_getD]
  congr 2
  simp; omega
theorem mpL_set {f : Int → Int} {l : List Int} {k : Nat} (h : k < l.length) : (mpL f l k).set k (f (l.getD k 0)) = mpL f l (k + 1) := by
  unfold mpL
  rw [List.set_append_right _ _ (by simp; omega), List.take_add_one, List.getElem?_eq_getElem h, List.getD_eq_getElem?_getD, List.getElem?_eq_getElem h, List.drop_eq_getElem_cons h]
  have : k - ((l.take k).map f).length = 0 := by simp; omega
  rw [this]
  simp only [List.set_cons_zero, List.map_append, List.append_assoc, Option.toList_some, List.map_cons, List.map_nil, List.cons_append, List.nil_append, Option.getD_some]
theorem mpL_wf {f : Int → Int} {l : List Int} {k : Nat} (hf : ∀ x, wfi (f x)) (hw : ∀ x ∈ l, wfi x) : ∀ x ∈ mpL f l k, wfi x := by
  intro x hx
  unfold mpL at hx
  rcases List.mem_append.1 hx with hx | hx
  · obtain ⟨y, _, rfl⟩ := List.mem_map.1 hx; exact hf y
  · exact hw x (List.mem_of_mem_drop hx)
/-- One of the numbers that were given. -/
def gvn (last : Nat) (x : Int) : Int := 1 + (among x last : Nat)
theorem gvn_wf {last : Nat} (h : 0 < last) (hl : last ≤ 100000) (x : Int) : wfi (gvn last x) := by
  have := among_lt x last h
  unfold gvn; exact wfi_of (by omega)
theorem fewP_self {p : Pt} (h1 : p.data.length ≤ 70) (h2 : p.needs.length ≤ 6) : fewP p = p := by
  unfold fewP
  rw [List.take_of_length_le h1, List.take_of_length_le h2]
theorem add_un {Z : GZ} (h : ∀ p ∈ Z.l, p.wr = false) (q : Pt) : ∀ p ∈ (Z.add q).l, p.wr = false := by
  unfold GZ.add
  split
  · intro p hp
    rcases List.mem_append.1 hp with hp | hp
    · exact h p hp
    · rw [List.mem_singleton.1 hp]
  · exact h
theorem held_same {l l' : List Pt} (h : ∀ i, has l' i = has l i) {p p' : Pt} (e : p'.needs = p.needs) : held l' p' = held l p := by
  unfold held; rw [e]; congr 1; funext i; exact h i
theorem wr1_wh {Z : GZ} (hs : Rise Z.l) (h : Wh Z.l) (i : Int) : Wh (Z.wr1 i).l := by
  unfold GZ.wr1
  split
  · rename_i he
    intro q hq hw
    have hh : ∀ k, has (setW Z.l i) k = has Z.l k := fun k => by rw [has_ids, setW_id, ← has_ids]
    obtain ⟨p, h1, h2⟩ := setW_mem.1 hq
    by_cases e : p.id = i
    · rw [if_pos e] at h2
      rw [held_same (p := p) hh (by rw [h2])]
      unfold wE at he
      rw [← e, fnd_of hs h1] at he
      simp only at he
      by_cases hc : (p.wr || held Z.l p || bhd Z.l p) = true
      · rw [if_pos hc] at he; cases he
      · simp at hc; exact hc.1.2
    · rw [if_neg e] at h2
      subst h2
      rw [held_same (p := q) hh rfl]; exact h q h1 hw
  · exact h
theorem wr_wh {Z : GZ} (hs : Rise Z.l) (h : Wh Z.l) (i : Int) : Wh (Z.wr [i]).l := by
  have := wr1_wh hs h i
  unfold GZ.wr GZ.wr
  split
  · exact this
  · exact h
theorem wr_la' {Z : GZ} {k : Nat} (h : Z.last ≤ (k : Int)) (l : List Int) : (Z.wr l).last ≤ (k : Int) := by
  rw [(core_wr l Z).2]; exact h
set_option maxRecDepth 100000 in
set_option maxHeartbeats 8000000 in
theorem made_any {w : World} {E0 : Nat → Prop} {s : Sv} {L : List Pe} (H : Ps w E0 s L) {s2 : Sv} {wl : List Int} (hwl : InsS w s2 wl) :
    Calls Tryz.prog 4 #[.slice s.a s.n s.c, .slice s2.a s2.n s2.c] w fun e w' => ∃ g h, e = .returned (.tuple #[.pointer (some ⟨g, 0, none⟩), .pointer (some ⟨h, 0, none⟩)]) ∧ (∃ Z, (∃ E F R, Bx w.heap.size w' g h Z 30 E F R) ∧ Wh Z.l) ∧ Below w.heap.size w w' := by
  have hcap : s.n ≤ 9223372036854775807 := by have := H.le; have := H.cap; unfold maxLen at this; omega
  have hlen := H.len
  obtain ⟨sa, sn, sc⟩ := s
  simp only at hcap hlen
  subst hlen
  have hl2 := hwl.i.len
  obtain ⟨ta, tn, tc⟩ := s2
  simp only at hl2
  subst hl2
  have hcap2 : wl.length ≤ 9223372036854775807 := by have := hwl.i.le; have := hwl.i.cap; unfold maxLen at this; simp only at *; omega
  go_enter Tryz.func4, Tryz.ntmps4
  go_wp2_with (first
    | (go_at_call 20; refine (new_any _).mono ?_; rintro e w1 ⟨g, rfl, E1, F1, G1, f1, x1, b1⟩)
    | (go_at_call 21; refine (rnew_any _).mono ?_; rintro e w2 ⟨rfl, R2, b2⟩))
  obtain ⟨h, hh⟩ : ∃ h, h = w1.heap.size := ⟨_, rfl⟩
  rw [← hh] at R2 ⊢
  have st : Bx w.heap.size w2 g h GZ.new 0 E1 F1 (fun _ => False) := by
    obtain ⟨k1, k2, k3⟩ := Gh.lt G1
    exact ⟨Gh.later G1 b2, R2, fun x hx => ⟨f1 x hx, by have := k1 x hx; omega, id⟩, fun x hx => ⟨x1 x hx, by have := k2 x hx; omega⟩, (fun x hx => hx.elim), by have := b1.size; omega, (fun p hp => by cases hp), by show (0 : Int) ≤ 0; omega⟩
  have W2 := bnext b1 b2 (Nat.le_refl _)
  clear R2 b1 b2 hh G1 f1 x1
  go_loopw [8] (fun v wr => ∃ (i : Nat) (Z : GZ) (E F R : Nat → Prop), i ≤ L.length ∧ i ≤ 30 ∧ v = .int .i64 (i : Int) ∧ Bx w.heap.size wr g h Z i E F R ∧ (∀ p ∈ Z.l, p.wr = false) ∧ Below w.heap.size w wr) (fun v _ => 30 - (intOf v).toNat)
  case atStart => exact ⟨0, GZ.new, E1, F1, _, Nat.zero_le _, Nat.zero_le _, rfl, st, (fun p hp => by cases hp), W2⟩
  case round =>
    clear st W2
    rename World => wq
    obtain ⟨i, Z, E, F, R, hi, hi30, rfl, B, hun0, BW⟩ := hrel
    by_cases hgo : i < L.length ∧ i < 30
    · have a9 : (i : Int) < (L.length : Int) := by omega
      have a8 : (i : Int) < 30 := by omega
      have hun : Hid (∀ p ∈ Z.l, p.wr = false) := hun0
      have Hr := H.later (w' := wq) BW
      obtain ⟨bb, o, e0, hbE, hcell⟩ := Hr.cell (by simpa using (by omega : 0 < L.length))
      simp only at e0
      subst e0
      obtain ⟨T, hT⟩ : ∃ T, L[i]? = some T := ⟨L[i], List.getElem?_eq_getElem hgo.1⟩
      have hrg := hcell i T hT
      have hmem := List.mem_of_getElem? hT
      have hwf := H.wf T hmem
      have hPM := Hr.ms T hmem
      have HF := few_any T.p T.d T.n hPM.bs hPM.is
      obtain ⟨m, hm⟩ : ∃ m : Nat, Z.last = (m : Int) := ⟨Z.last.toNat, by have := B.gh.ok.l0; omega⟩
      have hm30 : m ≤ 30 := by have := B.la; omega
      have hlt2 : Hid (Z.last < 2000) := by show _ < _; omega
      have hFw : Hid (∀ y, F y → y < wq.heap.size) := B.gh.lt.1
      have hhw : Hid (h < wq.heap.size) := B.rh.lt.1
      clear hcell hbE hPM hun0
      have hq0 : (fewP T.p).wfp := ⟨hwf.i, hwf.s, hwf.o, hwf.k, hwf.w, hwf.c⟩
      have hq1 : (fewP T.p).data.length ≤ 70 := by unfold fewP; simp; omega
      have hq2 : (fewP T.p).needs.length ≤ 6 := by unfold fewP; simp; omega
      generalize fewP T.p = q0 at *
      have t1 : Hid True := trivial
      have t2 : Hid True := trivial
      have t3 : Hid True := trivial
      have t6 : Hid True := trivial
      have t7 : Hid True := trivial
      go_wp2_with (first
        | (clear t1; refine at_getE _ (by rfl) (by rfl) bb (o + i * 9) (by rfl) T hrg ?_)
        | (go_at_call 22; refine HF.mono ?_; rintro e w3 ⟨d', n', rfl, m3, b3, o3, n3, ap3⟩; clear HF)
        | (clear t2; refine at_newP (by rfl) (by rfl) ?_; intro g9 w4 a4 a4' r4 b4)
        | (clear t3; refine at_putP (by rfl) _ _ (by rfl) g9 (by rfl) q0 d' n' (by rfl) _ r4 rfl ?_; intro w5 r5 s5))
      have z3 := b3.size
      have z4 := b4.size
      have z5 := s5.size
      have m5 := (m3.later b4).step s5 (fun y hy e => by have := hy.2; omega)
      have o5 := (o3.later b4).step s5 (fun r hr e => by have := o3.lt hr; omega)
      have BW5 : Below wq.heap.size wq w5 := ((Stp.of_below (bnext b3 b4 (Nat.le_refl _)) (fun _ => False)).next s5 (fun y e => .inr (by omega))).below (Nat.le_refl _) (fun y e => e.elim)
      have hg9 : Hid (¬ F g9) := fun e => by have := hFw.out g9 e; omega
      have hg9h : wq.heap.size ≤ g9 := by omega
      have hob : ∀ r, (Value.slice n'.a n'.n n'.c).ownBlock = some r → wq.heap.size ≤ r ∧ r < w3.heap.size := fun r hr => ⟨n3 r hr, o3.lt hr⟩
      have hnl : q0.needs.length = n'.n := m5.is.i.len
      have hwfn := m5.is.i.wf
      have zl : w5.cell? ⟨h, 0, none⟩ = some (.int .i64 (m : Int)) := by have := (B.rh.later BW5).last; rw [hm] at this; exact this
      obtain ⟨na, nn, nc⟩ := n'
      simp only at hnl hob o5 n3 ap3
      have c5 := (Pt.cells r5).2.2.2.2.2.1
      simp only at c5
      clear m3 o3 r4 b4 s5 b3 hrg hmem
      by_cases h0 : 0 < m
      · have hl0 : (0 : Int) < (m : Int) := by omega
        have hA := fun (y : Int) (u : World) => among_any y m u h0 (by omega)
        have hC5 : Hid (w5.cell? ⟨g9, 5, none⟩ = some (.slice na nn nc)) := c5
        have hzl : Hid (w5.cell? ⟨h, 0, none⟩ = some (.int .i64 (m : Int))) := zl
        have hob9 : (Value.slice na nn nc).ownBlock ≠ some g9 := fun e => by have := hob g9 e; omega
        have hobh : (Value.slice na nn nc).ownBlock ≠ some h := fun e => by have := hob h e; have := hhw.out; omega
        subst hnl
        clear c5 zl
        have hnn6 : (q0.needs.length : Int) ≤ 6 := by omega
        go_loopw [10] (fun v wx => ∃ k : Nat, k ≤ q0.needs.length ∧ v = .int .i64 (k : Int) ∧ Stp (fun y => (Value.slice na q0.needs.length nc).ownBlock = some y) w5 wx ∧ OwV wx (.slice na q0.needs.length nc) (mpL (gvn m) q0.needs k)) (fun v _ => q0.needs.length - (intOf v).toNat)
        case atStart => exact ⟨0, Nat.zero_le _, rfl, Stp.refl _ _, by rw [mpL_zero]; exact o5⟩
        case round =>
          rename World => wx
          obtain ⟨k, hk, rfl, sk, ow⟩ := hrel
          have c5 := sk.cell hC5.out hob9
          have zl := sk.cell hzl.out hobh
          by_cases hkl : k < q0.needs.length
          · obtain ⟨rb, cap, cur, e1, -⟩ := ow.row1 (fun e => by have := mpL_len (gvn m) q0.needs k; rw [e, List.length_nil] at this; omega)
            rw [mpL_len] at e1
            injection e1 with e1 e2 e3
            subst e1; subst e3; clear e2
            have hset := ow.set k (by rw [mpL_len]; exact hkl) (gvn m (q0.needs.getD k 0))
            rw [mpL_get hkl, mpL_set hkl] at hset
            obtain ⟨ck, fk, ow2⟩ := hset
            have hnr : gvn m (q0.needs.getD k 0) = 1 + (among (q0.needs.getD k 0) m : Nat) := rfl
            have hal := among_lt (q0.needs.getD k 0) m h0
            have hwr : IntKind.i64.wrap (1 + (among (q0.needs.getD k 0) m : Nat)) = gvn m (q0.needs.getD k 0) := by rw [hnr, IntKind.wrap_i64]; omega
            have hA2 := hA (q0.needs.getD k 0)
            have ow2' : Hid (OwV (wx.setCell ⟨rb, k, none⟩ (.int .i64 (gvn m (q0.needs.getD k 0)))) (.slice (some ⟨rb, 0, none⟩) q0.needs.length nc) (mpL (gvn m) q0.needs (k + 1))) := ow2
            have b9 : (k : Int) < (q0.needs.length : Int) := by omega
            clear ow2 hA hnr hal
            generalize gvn m (q0.needs.getD k 0) = y at *
            generalize q0.needs.getD k 0 = y0 at *
            go_wp2_with fail
            have b8 : (0 : Int) ≤ (k : Int) := by omega
            refine wp_region_last (S := fun u => Below wx.heap.size wx u) _ _ (by simp only [List.pop_toArray, List.dropLast_cons_cons, List.dropLast_singleton]; rfl) (by simp only [List.back?_toArray, List.getLast?_cons_cons, List.getLast?_singleton]; rfl) (by kernel_rfl) (by kernel_rfl) (Below.refl _ _).drew (fun hHeld => ?_)
            refine wpAnyH_take (i := 0) (oi := { dst := some 43, op := Op.fieldAddr 54 (Operand.tmp 9) 5, type := 0, pos := _, after := #[], guard := none }) (v := .pointer (some ⟨g9, 5, none⟩)) rfl (by kernel_rfl) (by kernel_rfl) (by kernel_rfl) (fun _ _ _ h => h) (Or.inl ⟨by rfl, ?_⟩) hHeld ?_
            · intro u hu
              go_simp
            try simp only [Act.put, List.setIfInBounds_toArray, List.set_cons_zero, List.set_cons_succ]
            refine wpAnyH_take (i := 1) (oi := { dst := some 44, op := Op.load 23 (Operand.tmp 43), type := 23, pos := _, after := #[{ on := 0, ground := Ground.data }], guard := none }) (v := .slice (some ⟨rb, 0, none⟩) q0.needs.length nc) rfl (by kernel_rfl) (by kernel_rfl) (by kernel_rfl) (fun _ _ _ h => h) (Or.inl ⟨by rfl, ?_⟩) hHeld ?_
            · intro u hu
              have x1 := (Stp.of_below hu (fun _ => False)).cell c5 id; go_simp
            try simp only [Act.put, List.setIfInBounds_toArray, List.set_cons_zero, List.set_cons_succ]
            refine wpAnyH_take (i := 2) (oi := { dst := some 45, op := Op.move (Operand.tmp 10), type := 3, pos := _, after := #[], guard := none }) (v := .int .i64 (k : Int)) rfl (by kernel_rfl) (by kernel_rfl) (by kernel_rfl) (fun _ _ _ h => h) (Or.inl ⟨by rfl, ?_⟩) hHeld ?_
            · intro u hu
              go_simp
            try simp only [Act.put, List.setIfInBounds_toArray, List.set_cons_zero, List.set_cons_succ]
            refine wpAnyH_take (i := 3) (oi := { dst := some 46, op := Op.fieldAddr 54 (Operand.tmp 9) 5, type := 0, pos := _, after := #[], guard := none }) (v := .pointer (some ⟨g9, 5, none⟩)) rfl (by kernel_rfl) (by kernel_rfl) (by kernel_rfl) (fun _ _ _ h => h) (Or.inl ⟨by rfl, ?_⟩) hHeld ?_
            · intro u hu
              go_simp
            try simp only [Act.put, List.setIfInBounds_toArray, List.set_cons_zero, List.set_cons_succ]
            refine wpAnyH_take (i := 4) (oi := { dst := some 47, op := Op.load 23 (Operand.tmp 46), type := 23, pos := _, after := #[{ on := 3, ground := Ground.data }], guard := none }) (v := .slice (some ⟨rb, 0, none⟩) q0.needs.length nc) rfl (by kernel_rfl) (by kernel_rfl) (by kernel_rfl) (fun _ _ _ h => h) (Or.inl ⟨by rfl, ?_⟩) hHeld ?_
            · intro u hu
              have x1 := (Stp.of_below hu (fun _ => False)).cell c5 id; go_simp
            try simp only [Act.put, List.setIfInBounds_toArray, List.set_cons_zero, List.set_cons_succ]
            refine wpAnyH_take (i := 5) (oi := { dst := some 48, op := Op.move (Operand.tmp 10), type := 3, pos := _, after := #[], guard := none }) (v := .int .i64 (k : Int)) rfl (by kernel_rfl) (by kernel_rfl) (by kernel_rfl) (fun _ _ _ h => h) (Or.inl ⟨by rfl, ?_⟩) hHeld ?_
            · intro u hu
              go_simp
            try simp only [Act.put, List.setIfInBounds_toArray, List.set_cons_zero, List.set_cons_succ]
            refine wpAnyH_take (i := 6) (oi := { dst := some 49, op := Op.indexAddr 23 (Operand.tmp 47) (Operand.tmp 48), type := 0, pos := _, after := #[{ on := 4, ground := Ground.data }, { on := 5, ground := Ground.data }], guard := none }) (v := .pointer (some ⟨rb, k, none⟩)) rfl (by kernel_rfl) (by kernel_rfl) (by kernel_rfl) (fun _ _ _ h => h) (Or.inl ⟨by rfl, ?_⟩) hHeld ?_
            · intro u hu
              go_simp
            try simp only [Act.put, List.setIfInBounds_toArray, List.set_cons_zero, List.set_cons_succ]
            refine wpAnyH_take (i := 7) (oi := { dst := some 50, op := Op.load 3 (Operand.tmp 49), type := 3, pos := _, after := #[{ on := 6, ground := Ground.data }], guard := none }) (v := .int .i64 y0) rfl (by kernel_rfl) (by kernel_rfl) (by kernel_rfl) (fun _ _ _ h => h) (Or.inl ⟨by rfl, ?_⟩) hHeld ?_
            · intro u hu
              have x1 := (Stp.of_below hu (fun _ => False)).cell ck id; go_simp
            try simp only [Act.put, List.setIfInBounds_toArray, List.set_cons_zero, List.set_cons_succ]
            refine wpAnyH_take (i := 8) (oi := { dst := some 51, op := Op.move (Operand.tmp 7), type := 25, pos := _, after := #[], guard := none }) (v := .pointer (some ⟨h, 0, none⟩)) rfl (by kernel_rfl) (by kernel_rfl) (by kernel_rfl) (fun _ _ _ h => h) (Or.inl ⟨by rfl, ?_⟩) hHeld ?_
            · intro u hu
              go_simp
            try simp only [Act.put, List.setIfInBounds_toArray, List.set_cons_zero, List.set_cons_succ]
            refine wpAnyH_take (i := 9) (oi := { dst := some 52, op := Op.nilCheck (Operand.tmp 51), type := 0, pos := _, after := #[{ on := 8, ground := Ground.data }], guard := none }) (v := .pointer (some ⟨h, 0, none⟩)) rfl (by kernel_rfl) (by kernel_rfl) (by kernel_rfl) (fun _ _ _ h => h) (Or.inl ⟨by rfl, ?_⟩) hHeld ?_
            · intro u hu
              go_simp
            try simp only [Act.put, List.setIfInBounds_toArray, List.set_cons_zero, List.set_cons_succ]
            refine wpAnyH_take (i := 10) (oi := { dst := some 53, op := Op.fieldAddr 57 (Operand.tmp 52) 0, type := 0, pos := _, after := #[{ on := 9, ground := Ground.data }], guard := none }) (v := .pointer (some ⟨h, 0, none⟩)) rfl (by kernel_rfl) (by kernel_rfl) (by kernel_rfl) (fun _ _ _ h => h) (Or.inl ⟨by rfl, ?_⟩) hHeld ?_
            · intro u hu
              go_simp
            try simp only [Act.put, List.setIfInBounds_toArray, List.set_cons_zero, List.set_cons_succ]
            refine wpAnyH_take (i := 11) (oi := { dst := some 54, op := Op.load 3 (Operand.tmp 53), type := 3, pos := _, after := #[{ on := 10, ground := Ground.data }], guard := none }) (v := .int .i64 (m : Int)) rfl (by kernel_rfl) (by kernel_rfl) (by kernel_rfl) (fun _ _ _ h => h) (Or.inl ⟨by rfl, ?_⟩) hHeld ?_
            · intro u hu
              have x1 := (Stp.of_below hu (fun _ => False)).cell zl id; go_simp
            try simp only [Act.put, List.setIfInBounds_toArray, List.set_cons_zero, List.set_cons_succ]
            refine wpAnyH_ready (rs := [12]) (by kernel_rfl) (by simp) ?_
            refine (AllReadyH.cons (o := { dst := some 55, op := Op.call { callee := Callee.value (Operand.func 23), args := #[Operand.tmp 50, Operand.tmp 54], argTypes := #[3, 3] }, type := 3, pos := _, after := #[{ on := 7, ground := Ground.data }, { on := 11, ground := Ground.data }], guard := none }) rfl (fun K hK => ?_) AllReadyH.nil)
            go_simp
            refine (hA2 _).mono ?_
            rintro e w6 ⟨rfl, rfl⟩
            try go_wp2_with fail
            refine hK.out _ _ (hHeld) (fun hHeld => ?_)
            clear hK K
            try simp only [Act.put, List.setIfInBounds_toArray, List.set_cons_zero, List.set_cons_succ]
            refine wpAnyH_take (i := 13) (oi := { dst := some 56, op := Op.binOp BinOp.add 3 (Operand.const (Value.int IntKind.i64 1)) (Operand.tmp 55) 3, type := 3, pos := _, after := #[{ on := 12, ground := Ground.data }], guard := none }) (v := .int .i64 y) rfl (by kernel_rfl) (by kernel_rfl) (by kernel_rfl) (fun _ _ _ h => h) (Or.inl ⟨by rfl, ?_⟩) hHeld ?_
            · intro u hu
              go_simp
            try simp only [Act.put, List.setIfInBounds_toArray, List.set_cons_zero, List.set_cons_succ]
            refine wpAnyH_take (i := 14) (oi := { dst := some 57, op := Op.indexAddr 23 (Operand.tmp 44) (Operand.tmp 45), type := 0, pos := _, after := #[{ on := 1, ground := Ground.data }, { on := 2, ground := Ground.data }, { on := 0, ground := Ground.phase }, { on := 1, ground := Ground.phase }, { on := 2, ground := Ground.phase }, { on := 3, ground := Ground.phase }, { on := 4, ground := Ground.phase }, { on := 5, ground := Ground.phase }, { on := 6, ground := Ground.phase }, { on := 7, ground := Ground.phase }, { on := 8, ground := Ground.phase }, { on := 9, ground := Ground.phase }, { on := 10, ground := Ground.phase }, { on := 11, ground := Ground.phase }, { on := 12, ground := Ground.phase }, { on := 13, ground := Ground.phase }], guard := none }) (v := .pointer (some ⟨rb, k, none⟩)) rfl (by kernel_rfl) (by kernel_rfl) (by kernel_rfl) (fun _ _ _ h => h) (Or.inl ⟨by rfl, ?_⟩) hHeld ?_
            · intro u hu
              go_simp
            try simp only [Act.put, List.setIfInBounds_toArray, List.set_cons_zero, List.set_cons_succ]
            refine wpAnyH_done (by kernel_rfl) ?_ _
            have ow3 : OwV (wx.drew.setCell ⟨rb, k, none⟩ (.int .i64 y)) (.slice (some ⟨rb, 0, none⟩) q0.needs.length nc) (mpL (gvn m) q0.needs (k + 1)) := ow2'.out
            have ckd : wx.drew.cell? ⟨rb, k, none⟩ = some (.int .i64 y0) := ck
            have fkd : wx.drew.frozen? ⟨rb, k, none⟩ = false := fk
            have s9 : Stp (fun y => (Value.slice (some ⟨rb, 0, none⟩) q0.needs.length nc).ownBlock = some y) w5 (wx.drew.setCell ⟨rb, k, none⟩ (.int .i64 y)) := (sk.drew).setCell (p := ⟨rb, k, none⟩) (.inl rfl) _
            show wpList _ _ _ [_] _ _
            refine op_unit (by rfl) (wx.drew.setCell ⟨rb, k, none⟩ (.int .i64 y)) (by simp [execOp, Instr.storeAt, Instr.sureAddr]; go_simp) ?_
            clear hHeld c5 ck fk ckd fkd zl
            go_wp2_with fail
            go_roundw
            case rel => exact ⟨k + 1, by omega, by go_num, s9, ow3⟩
            case measure => simp [intOf]; omega
          · have hk' : k = q0.needs.length := by omega
            subst hk'
            have hqq : ∃ q : Pt, q = { q0 with needs := mpL (gvn m) q0.needs q0.needs.length } := ⟨_, rfl⟩
            obtain ⟨q, hq⟩ := hqq
            have hcsq : q.cs d' ⟨na, q0.needs.length, nc⟩ = q0.cs d' ⟨na, q0.needs.length, nc⟩ := by rw [hq]; rfl
            have r7 : Cs wx g9 (q.cs d' ⟨na, q0.needs.length, nc⟩) := by rw [hcsq]; exact r5.step sk hob9
            have hqw : q.wfp := by rw [hq]; exact ⟨hq0.i, hq0.s, hq0.o, hq0.k, hq0.w, hq0.c⟩
            have hqd : Hid (q.data.length ≤ 70) := by show _ ≤ _; rw [hq]; exact hq1
            have hqn : Hid (q.needs.length ≤ 6) := by show _ ≤ _; rw [hq]; simp only; rw [mpL_len]; exact hq2
            have hself : Hid (fewP q = q) := fewP_self hqd.out hqn.out
            have zx := sk.size
            have m7 : PtM wx (Made wq wx) q d' ⟨na, q0.needs.length, nc⟩ := by
              obtain ⟨sv, e1, e2, e3, e4⟩ := ow.ins (B := wq.heap.size) (mpL_wf (gvn_wf h0 (by omega)) hwfn) (fun r hr => (hob r hr).1)
              have e5 : (⟨na, q0.needs.length, nc⟩ : Sv) = sv := by
                obtain ⟨sa, sn, sc⟩ := sv
                injection e1 with f1 f2 f3
                subst f1; subst f2; subst f3; rfl
              subst e5
              refine ⟨?_, by rw [hq]; exact e3, m5.ed.mono (fun y hy => ⟨hy.1, by have := hy.2; omega⟩), e4⟩
              rw [hq]
              exact m5.bs.step (E := fun y => Made wq w3 y ∧ (Value.slice na q0.needs.length nc).ownBlock ≠ some y) sk (fun ad h1 h2 => ⟨m5.ed ad h1 h2, fun e => ap3 _ e ad h1 h2 rfl⟩) (fun y hy e => hy.2 e)
            have BW7' : Below wq.heap.size wq wx := BW5.trans (sk.below BW5.size (fun y e => (hob y e).1))
            have BW7 := bnext BW BW7' (Nat.le_refl _)
            have B7 := B.later BW7'
            generalize hnn : q0.needs.length = nn at *
            clear hq hcsq
            go_wp2_with (first
              | (clear t6; refine at_getP0 (by rfl) _ (by rfl) g9 (by rfl) q d' ⟨na, nn, nc⟩ r7 ?_)
              | (go_at_call 22; refine (few_any q d' ⟨na, nn, nc⟩ m7.bs m7.is).mono ?_; rintro e w8 ⟨d8, n8, rfl, m8, b8, -, -, -⟩
                 rw [hself.out] at m8 ⊢
                 have B8 := B7.later b8
                 obtain ⟨mp8, mw8, f8, fw8, H8⟩ := B8.gh
                 have hAd := add_any H8 q d8 n8 hqw m8 (fun y hy e => by have := B7.gh.lt.1 y e; have := hy.1; omega) hlt2.out (by have := hqd.out; omega) (by have := hqn.out; omega)
                 clear H8 m8)
              | (go_at_call 24; refine hAd.mono ?_; rintro e w9' ⟨rfl, E9, F9, G9, s9, gF, gE⟩; clear hAd
                 have r9 := (r7.later b8).step s9 (fun e => hg9.out e)
                 have m9 := (m7.later b8).step s9 (fun y hy e => by have := hFw.out y e; have := hy.1; omega)
                 obtain ⟨ra, rc, rL, R9⟩ := B8.rh.step s9 (fun e => (B.hF h e).2.1 rfl) (fun y hy e => (B.hF y e).2.2 hy)
                 have hRd := radd_any R9 q d' ⟨na, nn, nc⟩ hqw m9 (fun y hy e => by have := hhw.out; have := hy.1; omega) hlt2.out (by have := hqd.out; omega) (by have := hqn.out; omega))
              | (clear t7; refine at_getP0 (by rfl) _ (by rfl) g9 (by rfl) q d' ⟨na, nn, nc⟩ r9 ?_)
              | (go_at_call 25; refine hRd.mono ?_; rintro e w10 ⟨rfl, R10, s10⟩; clear hRd))
            obtain ⟨B10, b10⟩ := B8.pair (k' := i + 1) G9 s9 gF gE (Below.refl _ _) R10 (fun y hy => hy.1) s10 (add_n6 B.n6 _ hqn.out) (add_la B.la _)
            have L10 : Below w.heap.size w w10 := (bnext BW7 b8 (Nat.le_refl _)).trans (B8.low b10)
            have U10 := add_un hun.out q
            generalize Z.addN q = e1 at *
            generalize Z.addE q = e2 at *
            go_wp2_with fail
            go_roundw
            case rel => exact ⟨i + 1, _, _, _, _, by omega, by omega, by go_num, B10, U10, L10⟩
            case measure => simp [intOf]; omega
      · have hm0 : m = 0 := by omega
        subst hm0
        have hq : Hid (fewP q0 = q0) := fewP_self hq1 hq2
        obtain ⟨q, rfl⟩ : ∃ q, q = q0 := ⟨_, rfl⟩
        have hqd : Hid (q.data.length ≤ 70) := hq1
        have hqn : Hid (q.needs.length ≤ 6) := hq2
        have hself : Hid (fewP q = q) := hq
        have hqw := hq0
        have r7 := r5
        have m7 : PtM w5 (Made wq w5) q d' ⟨na, nn, nc⟩ := m5.mono (fun y hy => ⟨hy.1, by have := hy.2; omega⟩)
        have BW7 := bnext BW BW5 (Nat.le_refl _)
        have B7 := B.later BW5
        refine wp_loop_rounds 1 ?_
        rw [rounds_succ]
        by_cases hn0 : (0 : Int) < (nn : Int)
        · skip
          go_wp2_with (first
            | (clear t6; refine at_getP0 (by rfl) _ (by rfl) g9 (by rfl) q d' ⟨na, nn, nc⟩ r7 ?_)
            | (go_at_call 22; refine (few_any q d' ⟨na, nn, nc⟩ m7.bs m7.is).mono ?_; rintro e w8 ⟨d8, n8, rfl, m8, b8, -, -, -⟩
               rw [hself.out] at m8 ⊢
               have B8 := B7.later b8
               obtain ⟨mp8, mw8, f8, fw8, H8⟩ := B8.gh
               have hAd := add_any H8 q d8 n8 hqw m8 (fun y hy e => by have := B7.gh.lt.1 y e; have := hy.1; omega) hlt2.out (by have := hqd.out; omega) (by have := hqn.out; omega)
               clear H8 m8)
            | (go_at_call 24; refine hAd.mono ?_; rintro e w9' ⟨rfl, E9, F9, G9, s9, gF, gE⟩; clear hAd
               have r9 := (r7.later b8).step s9 (fun e => hg9.out e)
               have m9 := (m7.later b8).step s9 (fun y hy e => by have := hFw.out y e; have := hy.1; omega)
               obtain ⟨ra, rc, rL, R9⟩ := B8.rh.step s9 (fun e => (B.hF h e).2.1 rfl) (fun y hy e => (B.hF y e).2.2 hy)
               have hRd := radd_any R9 q d' ⟨na, nn, nc⟩ hqw m9 (fun y hy e => by have := hhw.out; have := hy.1; omega) hlt2.out (by have := hqd.out; omega) (by have := hqn.out; omega))
            | (clear t7; refine at_getP0 (by rfl) _ (by rfl) g9 (by rfl) q d' ⟨na, nn, nc⟩ r9 ?_)
            | (go_at_call 25; refine hRd.mono ?_; rintro e w10 ⟨rfl, R10, s10⟩; clear hRd))
          obtain ⟨B10, b10⟩ := B8.pair (k' := i + 1) G9 s9 gF gE (Below.refl _ _) R10 (fun y hy => hy.1) s10 (add_n6 B.n6 _ hqn.out) (add_la B.la _)
          have L10 : Below w.heap.size w w10 := (bnext BW7 b8 (Nat.le_refl _)).trans (B8.low b10)
          have U10 := add_un hun.out q
          generalize Z.addN q = e1 at *
          generalize Z.addE q = e2 at *
          go_wp2_with fail
          go_roundw
          case rel => exact ⟨i + 1, _, _, _, _, by omega, by omega, by go_num, B10, U10, L10⟩
          case measure => simp [intOf]; omega
        · have hn1 : (nn : Int) = 0 := by omega
          go_wp2_with (first
            | (clear t6; refine at_getP0 (by rfl) _ (by rfl) g9 (by rfl) q d' ⟨na, nn, nc⟩ r7 ?_)
            | (go_at_call 22; refine (few_any q d' ⟨na, nn, nc⟩ m7.bs m7.is).mono ?_; rintro e w8 ⟨d8, n8, rfl, m8, b8, -, -, -⟩
               rw [hself.out] at m8 ⊢
               have B8 := B7.later b8
               obtain ⟨mp8, mw8, f8, fw8, H8⟩ := B8.gh
               have hAd := add_any H8 q d8 n8 hqw m8 (fun y hy e => by have := B7.gh.lt.1 y e; have := hy.1; omega) hlt2.out (by have := hqd.out; omega) (by have := hqn.out; omega)
               clear H8 m8)
            | (go_at_call 24; refine hAd.mono ?_; rintro e w9' ⟨rfl, E9, F9, G9, s9, gF, gE⟩; clear hAd
               have r9 := (r7.later b8).step s9 (fun e => hg9.out e)
               have m9 := (m7.later b8).step s9 (fun y hy e => by have := hFw.out y e; have := hy.1; omega)
               obtain ⟨ra, rc, rL, R9⟩ := B8.rh.step s9 (fun e => (B.hF h e).2.1 rfl) (fun y hy e => (B.hF y e).2.2 hy)
               have hRd := radd_any R9 q d' ⟨na, nn, nc⟩ hqw m9 (fun y hy e => by have := hhw.out; have := hy.1; omega) hlt2.out (by have := hqd.out; omega) (by have := hqn.out; omega))
            | (clear t7; refine at_getP0 (by rfl) _ (by rfl) g9 (by rfl) q d' ⟨na, nn, nc⟩ r9 ?_)
            | (go_at_call 25; refine hRd.mono ?_; rintro e w10 ⟨rfl, R10, s10⟩; clear hRd))
          obtain ⟨B10, b10⟩ := B8.pair (k' := i + 1) G9 s9 gF gE (Below.refl _ _) R10 (fun y hy => hy.1) s10 (add_n6 B.n6 _ hqn.out) (add_la B.la _)
          have L10 : Below w.heap.size w w10 := (bnext BW7 b8 (Nat.le_refl _)).trans (B8.low b10)
          have U10 := add_un hun.out q
          generalize Z.addN q = e1 at *
          generalize Z.addE q = e2 at *
          go_wp2_with fail
          go_roundw
          case rel => exact ⟨i + 1, _, _, _, _, by omega, by omega, by go_num, B10, U10, L10⟩
          case measure => simp [intOf]; omega
    · have hBz : Bx w.heap.size wq g h Z 30 E F R := ⟨B.gh, B.rh, B.hF, B.hE, B.hR, B.hN, B.n6, by have := B.la; omega⟩
      have hWz : Wh Z.l := fun q hq hw => by rw [hun0 q hq] at hw; cases hw
      have hcase : ¬ i < L.length ∨ (i < L.length ∧ ¬ i < 30) := by omega
      clear B hun0 hgo
      rcases hcase with hc | ⟨hc, hd⟩
      · have a9 : ¬ (i : Int) < (L.length : Int) := by omega
        clear hc
        go_wp2_with fail
        go_loopw [11] (fun v wr => ∃ (k : Nat) (Z : GZ) (E F R : Nat → Prop), k ≤ wl.length ∧ k ≤ 4 ∧ v = .int .i64 (k : Int) ∧ Bx w.heap.size wr g h Z 30 E F R ∧ Wh Z.l ∧ Below w.heap.size w wr) (fun v _ => 4 - (intOf v).toNat)
        case atStart => exact ⟨0, Z, E, F, R, Nat.zero_le _, Nat.zero_le _, rfl, hBz, hWz, BW⟩
        case round =>
          rename World => wx
          clear hBz hWz BW
          obtain ⟨k, Z, E, F, R, hk, hk4, rfl, B, hWz, BW⟩ := hrel
          by_cases hkl : k < wl.length
          · have a9 : (k : Int) < (wl.length : Int) := by omega
            by_cases hk3 : k < 4
            · have a8 : (k : Int) < 4 := by omega
              have h2 := hwl.later BW
              obtain ⟨bb, o, e, hcs⟩ := h2.i.cell (by simpa using (by omega : 0 < wl.length))
              have ck := hcs k (by simpa using hkl)
              simp only at e
              subst e
              have hwx : wfi (wl.getD k 0) := by
                rw [List.getD_eq_getElem?_getD, List.getElem?_eq_getElem hkl]; exact hwl.i.wf _ (List.getElem_mem _)
              have hbw : Hid (bb < w.heap.size) := by
                obtain ⟨b', o', e', hc'⟩ := hwl.i.cell (by simpa using (by omega : 0 < wl.length))
                simp only at e'
                injection e' with e'; injection e' with e'
                subst e'
                exact World.block_lt_of_cell? w _ (hc' 0 (by simpa using (by omega : 0 < wl.length)))
              clear hcs h2
              generalize wl.getD k 0 = y at *
              have ba : Below wx.heap.size wx (wx.alloc (.cells #[.int .i64 y] 3)) := (Below.refl _ wx).alloc (Nat.le_refl _) _
              have hi1 := one_i wx y hwx
              have B1 := B.later ba
              have hWr := write_any B1.gh hi1 (inE_at (N := wx.heap.size) (Nat.le_refl _)) (fun x hx hf => by have := B.gh.lt.1 x hf; omega) (by simp) B.nl
              go_wp2_with (first
                | (go_at_call 26; refine hWr.mono ?_; rintro e w5 ⟨rfl, g5, s5⟩; clear hWr
                   have ck5 := (s5.cell ((Stp.of_below ba (fun _ => False)).cell ck id) (fun e => by have := (B.hF bb e).1; have := hbw.out; omega))
                   have R5 := B1.rh.step s5 (fun e => (B.hF h e).2.1 rfl) (fun x hx e => (B.hF x e).2.2 hx)
                   have ba5 : Below w5.heap.size w5 (w5.alloc (.cells #[.int .i64 y] 3)) := (Below.refl _ w5).alloc (Nat.le_refl _) _
                   have hi5 := one_i w5 y hwx
                   have hWs := rwrite_any (R5.later ba5) hi5 ((inE_at (N := w5.heap.size) (Nat.le_refl _)).mono (fun x hx e => by have := R5.lt.1; omega)) (by simp))
                | (go_at_call 27; refine hWs.mono ?_; rintro e w6 ⟨rfl, R6, s6⟩; clear hWs))
              obtain ⟨B6, b6⟩ := B1.pair (k' := 30) g5 s5 (Grew.refl _ _ _) (Grew.refl _ _ _) ba5 R6 (fun x hx => hx.1) s6 (wr_needs _ B.n6) (wr_la' B.la _)
              have L6 : Below w.heap.size w w6 := (bnext BW ba (Nat.le_refl _)).trans (B1.low b6)
              have W6 := wr_wh B.gh.ok.srt hWz y
              generalize Z.wrE [y] = e1 at *
              go_wp2_with fail
              go_roundw
              case rel => exact ⟨k + 1, _, _, _, _, by omega, by omega, by go_num, B6, W6, L6⟩
              case measure => simp [intOf]; omega
            · have a8 : ¬ (k : Int) < 4 := by omega
              go_wp2_with fail
              go_returns
              exact ⟨g, h, rfl, ⟨Z, ⟨E, F, R, B⟩, hWz⟩, BW⟩
          · have a9 : ¬ (k : Int) < (wl.length : Int) := by omega
            go_wp2_with fail
            go_returns
            exact ⟨g, h, rfl, ⟨Z, ⟨E, F, R, B⟩, hWz⟩, BW⟩
      · have a9 : (i : Int) < (L.length : Int) := by omega
        have a8 : ¬ (i : Int) < 30 := by omega
        clear hc hd
        go_wp2_with fail
        go_loopw [11] (fun v wr => ∃ (k : Nat) (Z : GZ) (E F R : Nat → Prop), k ≤ wl.length ∧ k ≤ 4 ∧ v = .int .i64 (k : Int) ∧ Bx w.heap.size wr g h Z 30 E F R ∧ Wh Z.l ∧ Below w.heap.size w wr) (fun v _ => 4 - (intOf v).toNat)
        case atStart => exact ⟨0, Z, E, F, R, Nat.zero_le _, Nat.zero_le _, rfl, hBz, hWz, BW⟩
        case round =>
          rename World => wx
          clear hBz hWz BW
          obtain ⟨k, Z, E, F, R, hk, hk4, rfl, B, hWz, BW⟩ := hrel
          by_cases hkl : k < wl.length
          · have a9 : (k : Int) < (wl.length : Int) := by omega
            by_cases hk3 : k < 4
            · have a8 : (k : Int) < 4 := by omega
              have h2 := hwl.later BW
              obtain ⟨bb, o, e, hcs⟩ := h2.i.cell (by simpa using (by omega : 0 < wl.length))
              have ck := hcs k (by simpa using hkl)
              simp only at e
              subst e
              have hwx : wfi (wl.getD k 0) := by
                rw [List.getD_eq_getElem?_getD, List.getElem?_eq_getElem hkl]; exact hwl.i.wf _ (List.getElem_mem _)
              have hbw : Hid (bb < w.heap.size) := by
                obtain ⟨b', o', e', hc'⟩ := hwl.i.cell (by simpa using (by omega : 0 < wl.length))
                simp only at e'
                injection e' with e'; injection e' with e'
                subst e'
                exact World.block_lt_of_cell? w _ (hc' 0 (by simpa using (by omega : 0 < wl.length)))
              clear hcs h2
              generalize wl.getD k 0 = y at *
              have ba : Below wx.heap.size wx (wx.alloc (.cells #[.int .i64 y] 3)) := (Below.refl _ wx).alloc (Nat.le_refl _) _
              have hi1 := one_i wx y hwx
              have B1 := B.later ba
              have hWr := write_any B1.gh hi1 (inE_at (N := wx.heap.size) (Nat.le_refl _)) (fun x hx hf => by have := B.gh.lt.1 x hf; omega) (by simp) B.nl
              go_wp2_with (first
                | (go_at_call 26; refine hWr.mono ?_; rintro e w5 ⟨rfl, g5, s5⟩; clear hWr
                   have ck5 := (s5.cell ((Stp.of_below ba (fun _ => False)).cell ck id) (fun e => by have := (B.hF bb e).1; have := hbw.out; omega))
                   have R5 := B1.rh.step s5 (fun e => (B.hF h e).2.1 rfl) (fun x hx e => (B.hF x e).2.2 hx)
                   have ba5 : Below w5.heap.size w5 (w5.alloc (.cells #[.int .i64 y] 3)) := (Below.refl _ w5).alloc (Nat.le_refl _) _
                   have hi5 := one_i w5 y hwx
                   have hWs := rwrite_any (R5.later ba5) hi5 ((inE_at (N := w5.heap.size) (Nat.le_refl _)).mono (fun x hx e => by have := R5.lt.1; omega)) (by simp))
                | (go_at_call 27; refine hWs.mono ?_; rintro e w6 ⟨rfl, R6, s6⟩; clear hWs))
              obtain ⟨B6, b6⟩ := B1.pair (k' := 30) g5 s5 (Grew.refl _ _ _) (Grew.refl _ _ _) ba5 R6 (fun x hx => hx.1) s6 (wr_needs _ B.n6) (wr_la' B.la _)
              have L6 : Below w.heap.size w w6 := (bnext BW ba (Nat.le_refl _)).trans (B1.low b6)
              have W6 := wr_wh B.gh.ok.srt hWz y
              generalize Z.wrE [y] = e1 at *
              go_wp2_with fail
              go_roundw
              case rel => exact ⟨k + 1, _, _, _, _, by omega, by omega, by go_num, B6, W6, L6⟩
              case measure => simp [intOf]; omega
            · have a8 : ¬ (k : Int) < 4 := by omega
              go_wp2_with fail
              go_returns
              exact ⟨g, h, rfl, ⟨Z, ⟨E, F, R, B⟩, hWz⟩, BW⟩
          · have a9 : ¬ (k : Int) < (wl.length : Int) := by omega
            go_wp2_with fail
            go_returns
            exact ⟨g, h, rfl, ⟨Z, ⟨E, F, R, B⟩, hWz⟩, BW⟩
end Go.Proofs.YtdfifneikmlmoaaGreat
namespace Go.Proofs.YtdfifneikmlmoaaGreat
open Go.ChangeShapes Go.WideShapes Go.ChangeAt Go.RowKit
set_option linter.unusedVariables false
set_option linter.unusedSimpArgs false

/-- What batches cost. -/
structure Pc where
  w : Int
  f : Int
  n : Int
def Pc.cs (p : Pc) : List Value := [.int .i64 p.w, .int .i64 p.f, .int .i64 p.n]
def Pc.more (p : Pc) (b : Bt) : Pc := if b.f then ⟨p.w, p.f + b.s.length, p.n⟩ else ⟨p.w + b.s.length, p.f, p.n + 1⟩
def cst (l : List Bt) : Pc := l.foldl Pc.more ⟨0, 0, 0⟩
theorem cst_snoc (l : List Bt) (b : Bt) : cst (l ++ [b]) = (cst l).more b := by unfold cst; rw [List.foldl_append]; rfl
theorem Pc.cs_one (p : Pc) : ∀ v ∈ p.cs, v.oneCell' = true := by intro v hv; unfold Pc.cs at hv; simp at hv; rcases hv with h | h | h <;> subst h <;> rfl
theorem srtPc : Srt 44 3 (Pc.cs ⟨0, 0, 0⟩) :=
  ⟨⟨_, Tryz.underlying44, rfl⟩, by kernel_rfl, fun w => (zero_of_info (v := .agg (Pc.cs ⟨0, 0, 0⟩).toArray) (n := 3) (by kernel_rfl)).1 w, rfl, Pc.cs_one _⟩
/-- It is small. -/
structure Pc.sm (p : Pc) (m : Int) : Prop where
  a : 0 ≤ p.w ∧ p.w ≤ m
  b : 0 ≤ p.f ∧ p.f ≤ m
  c : 0 ≤ p.n ∧ p.n ≤ m
theorem Pc.sm.more {p : Pc} {m : Int} (h : p.sm m) {b : Bt} (hb : b.s.length ≤ 400) : (p.more b).sm (m + 400) := by
  obtain ⟨⟨a1, a2⟩, ⟨b1, b2⟩, ⟨c1, c2⟩⟩ := h
  unfold Pc.more
  split
  · exact ⟨⟨by simp only; omega, by simp only; omega⟩, ⟨by simp only; omega, by simp only; omega⟩, ⟨by simp only; omega, by simp only; omega⟩⟩
  · exact ⟨⟨by simp only; omega, by simp only; omega⟩, ⟨by simp only; omega, by simp only; omega⟩, ⟨by simp only; omega, by simp only; omega⟩⟩
def Pc.same (p q : Pc) : Bool := decide (p.w = q.w) && decide (p.f = q.f) && decide (p.n = q.n)
theorem Pc.same_self (p : Pc) : p.same p = true := by unfold Pc.same; simp
theorem eqPc (x y : Pc) (w : World) : (Op.equalIn 10000 44 (.agg x.cs.toArray) (.agg y.cs.toArray)).run Tryz.prog w = .ok (x.same y) w := by
  obtain ⟨a, b, c⟩ := x
  obtain ⟨a', b', c'⟩ := y
  have f0 : Tryz.prog.underlying 44 = _ := Tryz.underlying44
  have f1 : Tryz.prog.underlying 3 = _ := Tryz.underlying3
  have sz : ∀ w, (sizeOf 3).run Tryz.prog w = .ok 1 w := fun w => by kernel_rfl
  rw [run_equalIn_struct (P := Tryz.prog) w 9999 44 _ _ (by kernel_rfl) (by kernel_rfl)]
  simp [Program.fieldsOf, f0, f1, Op.eqFields, part, Pc.cs, go_sem, sz, Pc.same]
  by_cases h1 : a = a' <;> by_cases h2 : b = b' <;> by_cases h3 : c = c' <;> simp [h1, h2, h3]
theorem guardPc : Tryz.prog.eqGuardType Tryz.prog.depth 44 = false := by kernel_rfl
theorem szInt : ∀ w, (sizeOf 3).run Tryz.prog w = .ok 1 w := fun w => by kernel_rfl
set_option maxRecDepth 100000 in
set_option maxHeartbeats 4000000 in
theorem cost_any {w : World} {N : Nat} {v : Value} {l : List Bt} (h : BtS w 35 N v l) (hl : l.length ≤ 1000) (hb : ∀ b ∈ l, b.s.length ≤ 400) :
    Calls Tryz.prog 18 #[v] w fun e w' => e = .returned (.agg (cst l).cs.toArray) ∧ Below w.heap.size w w' := by
  obtain ⟨L, eL, I⟩ := h
  have hLl : L.length = l.length := by rw [← eL, List.length_map]
  have hlk0 : Hid (∀ k (hk : k < L.length), l[k]? = some (L[k]).bt) := fun k hk => by rw [← eL, List.getElem?_map, List.getElem?_eq_getElem hk]; rfl
  obtain ⟨a, c, rfl, -⟩ := I.shape
  have t1 : Hid True := trivial
  have t2 : Hid True := trivial
  go_enter Tryz.func18, Tryz.ntmps18
  go_wp2_with (first
    | (clear t1; refine at_newC 44 3 _ srtPc (by rfl) (by rfl) ?_; intro g1 w1 a1 a1' r1 b1)
    | (clear t2; refine at_newC 44 3 _ srtPc (by rfl) (by rfl) ?_; intro g2 w2 a2 a2' r2 b2))
  have hne : g1 ≠ g2 := by omega
  have B2 := bnext b1 b2 (Nat.le_refl _)
  have z1 := b1.size
  have r12 := r1.later b2
  clear b1 b2 r1
  go_loopw [8] (fun u wr => ∃ k : Nat, k ≤ l.length ∧ u = .int .i64 (k : Int) ∧ Below w.heap.size w wr ∧ Cs wr g1 (Pc.cs ⟨0, 0, 0⟩) ∧ Cs wr g2 (cst (l.take k)).cs ∧ (cst (l.take k)).sm (k * 400)) (fun u _ => l.length - (intOf u).toNat)
  case atStart => exact ⟨0, Nat.zero_le _, rfl, B2, r12, r2, by rw [List.take_zero]; exact ⟨⟨by decide, by decide⟩, ⟨by decide, by decide⟩, ⟨by decide, by decide⟩⟩⟩
  case round =>
    clear r12 r2
    obtain ⟨k, hk, rfl, hB, c1, c2, hsm⟩ := hrel
    by_cases hlt : k < l.length
    · obtain ⟨b, rfl, hr⟩ := I.el' k (by omega)
      have hlk := hlk0.out k (by omega)
      have hT : l.take (k + 1) = l.take k ++ [(L[k]'(by omega)).bt] := by rw [List.take_add_one, hlk]; rfl
      have hb1 := hb _ (List.mem_of_getElem? hlk)
      have hin := (I.el _ (List.getElem_mem (show k < L.length by omega))).1
      have hr' : wr.rangeAt b (k * 2) (L[k]'(by omega)).cs := fun j u hu => (Stp.of_below hB (fun _ => False)).cell (hr j u hu) id
      have hsn : (L[k]'(by omega)).s.n = (L[k]'(by omega)).l.length := by
        rcases hin.row with ⟨e1, e2⟩ | ⟨_, _, _, e1, _⟩
        · injection e1 with _ e3 _; rw [e3, e2]; rfl
        · injection e1 with _ e3 _
      have hM : Hid (cst (l.take (k + 1)) = (cst (l.take k)).more (L[k]'(by omega)).bt) := by show _ = _; rw [hT, cst_snoc]
      have hS : Hid ((cst (l.take (k + 1))).sm ((k + 1 : Nat) * 400)) := by
        show Pc.sm _ _
        rw [hM.out]
        have := hsm.more hb1
        rw [show ((k + 1 : Nat) : Int) * 400 = (k : Int) * 400 + 400 by omega]; exact this
      clear hr hlk hT hin
      generalize (L[k]'(by omega)) = t at *
      obtain ⟨⟨sa, sn, sc⟩, tl, tf⟩ := t
      simp only at hsn
      subst hsn
      have hb2 : tl.length ≤ 400 := hb1
      generalize cst (l.take k) = p at *
      obtain ⟨pw, pf, pn⟩ := p
      obtain ⟨⟨q1, q2⟩, ⟨q3, q4⟩, ⟨q5, q6⟩⟩ := hsm
      simp only at q1 q2 q3 q4 q5 q6
      have a3 : (k : Int) < (L.length : Int) := by omega
      have hkb : (k : Int) ≤ 1000 := by omega
      have wr1 : IntKind.i64.wrap (pf + tl.length) = pf + tl.length := by rw [IntKind.wrap_i64]; omega
      have wr2 : IntKind.i64.wrap (pw + tl.length) = pw + tl.length := by rw [IntKind.wrap_i64]; omega
      have wr3 : IntKind.i64.wrap (pn + 1) = pn + 1 := by rw [IntKind.wrap_i64]; omega
      have t3 : Hid True := trivial
      have t4 : Hid True := trivial
      have t5 : Hid True := trivial
      have t6 : Hid True := trivial
      clear eL hb hLl q1 q2 q3 q4 q5 q6 hb1
      cases tf with
      | true =>
        have eM : Hid (cst (l.take (k + 1)) = ⟨pw, pf + tl.length, pn⟩) := hM.out
        clear hM wr2 wr3
        go_wp2_with (first
          | (clear t3; refine at_getBe btP _ (by rfl) (by rfl) b (k * 2) (by rfl) ⟨⟨sa, tl.length, sc⟩, tl, true⟩ hr' ?_)
          | (clear t4; refine at_newBt (by rfl) (by rfl) ?_; intro g3 w3 a3 a3' r3 b3)
          | (clear t5; refine at_putBt (by rfl) _ _ (by rfl) g3 (by rfl) (.slice sa tl.length sc) rfl true (by rfl) _ r3 rfl ?_; intro w4 r4 s4
             have d0 := r4.cell 0 _ rfl
             have d1 := r4.cell 1 _ rfl
             have B34 : Below wr.heap.size wr w4 := ((Stp.of_below b3 (fun _ => False)).next s4 (fun x e => .inr (by omega))).below (Nat.le_refl _) (fun x e => e.elim)
             have c24 := c2.later B34
             have e0 := c24.cell 1 _ rfl)
          | (refine at_setC 3 .i64 szInt (by rfl) _ _ (by rfl) g2 1 (by rfl) _ (by rfl) _ c24 (by exact (show 1 < 3 by decide)) ?_; intro w5 r5 s5))
        have c15 := (c1.later B34).step s5 hne
        have B5 : Below w.heap.size w w5 := ((Stp.of_below (bnext hB B34 (Nat.le_refl _)) (fun _ => False)).next s5 (fun x e => .inr (by omega))).below (Nat.le_refl _) (fun x e => e.elim)
        clear d0 d1 e0
        go_wp2_with fail
        go_roundw
        case rel => exact ⟨k + 1, by omega, by go_num, B5, c15, by rw [eM.out]; exact r5, hS.out⟩
        case measure => simp [intOf]; omega
      | false =>
        have eM : Hid (cst (l.take (k + 1)) = ⟨pw + tl.length, pf, pn + 1⟩) := hM.out
        clear hM wr1
        go_wp2_with (first
          | (clear t3; refine at_getBe btP _ (by rfl) (by rfl) b (k * 2) (by rfl) ⟨⟨sa, tl.length, sc⟩, tl, false⟩ hr' ?_)
          | (clear t4; refine at_newBt (by rfl) (by rfl) ?_; intro g3 w3 a3 a3' r3 b3)
          | (clear t5; refine at_putBt (by rfl) _ _ (by rfl) g3 (by rfl) (.slice sa tl.length sc) rfl false (by rfl) _ r3 rfl ?_; intro w4 r4 s4
             have d0 := r4.cell 0 _ rfl
             have d1 := r4.cell 1 _ rfl
             have B34 : Below wr.heap.size wr w4 := ((Stp.of_below b3 (fun _ => False)).next s4 (fun x e => .inr (by omega))).below (Nat.le_refl _) (fun x e => e.elim)
             have c24 := c2.later B34
             have e0 := c24.cell 0 _ rfl)
          | (clear t6; refine at_setC 3 .i64 szInt (by rfl) _ _ (by rfl) g2 0 (by rfl) _ (by rfl) _ c24 (by exact (show 0 < 3 by decide)) ?_; intro w45 r45 s45
             have e2 := r45.cell 2 _ rfl)
          | (refine at_setC 3 .i64 szInt (by rfl) _ _ (by rfl) g2 2 (by rfl) _ (by rfl) _ r45 (by exact (show 2 < 3 by decide)) ?_; intro w5 r5 s5'))
        have s5 : Stp (fun x => x = g2) w4 w5 := s45.trans s5'
        have c15 := (c1.later B34).step s5 hne
        have B5 : Below w.heap.size w w5 := ((Stp.of_below (bnext hB B34 (Nat.le_refl _)) (fun _ => False)).next s5 (fun x e => .inr (by omega))).below (Nat.le_refl _) (fun x e => e.elim)
        clear d0 d1 e0 e2
        go_wp2_with fail
        go_roundw
        case rel => exact ⟨k + 1, by omega, by go_num, B5, c15, by rw [eM.out]; exact r5, hS.out⟩
        case measure => simp [intOf]; omega
    · have hk' : k = l.length := by omega
      subst hk'
      rw [List.take_length] at c2
      have t3 : Hid True := trivial
      have t4 : Hid True := trivial
      go_wp2_with (first
        | (clear t3; refine at_getC 44 3 _ srtPc (by rfl) _ (by rfl) g2 (by rfl) _ c2 rfl ?_)
        | (clear t4; refine at_putC 44 3 _ srtPc (by rfl) _ _ (by rfl) g1 (by rfl) (cst l).cs (by rfl) rfl (Pc.cs_one _) _ c1 rfl ?_; intro w5 r5 s5))
      refine bodyPost_ret (retC srtPc rfl rfl r5 rfl) rfl ?_
      exact ⟨rfl, ((Stp.of_below hB (fun _ => False)).next s5 (fun x e => .inr (by omega))).below (Nat.le_refl _) (fun x e => e.elim)⟩
end Go.Proofs.YtdfifneikmlmoaaGreat
namespace Go.Proofs.YtdfifneikmlmoaaGreat
open Go.ChangeShapes Go.WideShapes Go.ChangeAt Go.RowKit
set_option linter.unusedVariables false
set_option linter.unusedSimpArgs false

theorem buildRG (x : Int) (s : Sv) (w : World) : (Instr.build 57 #[(0, .int .i64 x), (1, .slice s.a s.n s.c)]).run Tryz.prog w = .ok (.agg [Value.int .i64 x, .slice s.a s.n s.c].toArray) w := by kernel_rfl
theorem yields_bRG {ops : Array Oper} {o : Oper} {a : Act} {S : World → Prop} (hw : Region.wanted o (yielded ops a.tmps) = true) (x y : Operand) (ho : o.op = .build 57 #[(0, x), (1, y)]) (l : Int) (s : Sv) (hx : a.eval x = .int .i64 l) (hy : a.eval y = .slice s.a s.n s.c) :
    YieldsIf Tryz.prog ops S o (.agg [Value.int .i64 l, .slice s.a s.n s.c].toArray) a := by
  refine Or.inl ⟨hw, fun w _ => ?_⟩
  simp [execOp, ho, hx, hy, buildRG]
set_option maxRecDepth 100000 in
set_option maxHeartbeats 4000000 in
theorem rcopy_any {w : World} {h : Nat} {Z : GZ} {a : Option Addr} {c : Nat} {L : List Pe} {R : Nat → Prop} (H : Rf w h Z a c L R) :
    Calls Tryz.prog 29 #[.pointer (some ⟨h, 0, none⟩)] w fun e w' => ∃ hq, e = .returned (.pointer (some ⟨hq, 0, none⟩)) ∧ (∃ R', Rh w' hq Z R') ∧ w.heap.size ≤ hq ∧ Below w.heap.size w w' := by
  have hfew := H.few
  have hnil : a = none → L.length = 0 ∧ c = 0 := by
    obtain ⟨a', c', e, _, h⟩ := H.row.shape
    injection e with e1 e2 e3
    subst e1; subst e3; exact h
  go_enter Tryz.func29, Tryz.ntmps29
  go_wp2_with fail
  refine wp_region_held_drew (S := fun u => Below w.heap.size w u) (by kernel_rfl) (Below.refl _ _).drew (fun hHeld => ?_)
  refine wpAnyH_take (i := 0) (oi := { dst := some 3, op := Op.move (Operand.tmp 0), type := 25, pos := _, after := #[], guard := none }) (v := .pointer (some ⟨h, 0, none⟩)) rfl (by kernel_rfl) (by kernel_rfl) (by kernel_rfl) (fun _ _ _ h => h) (Or.inl ⟨by rfl, ?_⟩) hHeld ?_
  · intro u hu
    go_simp
  try simp only [Act.put, List.setIfInBounds_toArray, List.set_cons_zero, List.set_cons_succ]
  refine wpAnyH_take (i := 1) (oi := { dst := some 4, op := Op.nilCheck (Operand.tmp 3), type := 0, pos := _, after := #[{ on := 0, ground := Ground.data }], guard := none }) (v := .pointer (some ⟨h, 0, none⟩)) rfl (by kernel_rfl) (by kernel_rfl) (by kernel_rfl) (fun _ _ _ h => h) (Or.inl ⟨by rfl, ?_⟩) hHeld ?_
  · intro u hu
    go_simp
  try simp only [Act.put, List.setIfInBounds_toArray, List.set_cons_zero, List.set_cons_succ]
  refine wpAnyH_take (i := 2) (oi := { dst := some 5, op := Op.fieldAddr 57 (Operand.tmp 4) 0, type := 0, pos := _, after := #[{ on := 1, ground := Ground.data }], guard := none }) (v := .pointer (some ⟨h, 0, none⟩)) rfl (by kernel_rfl) (by kernel_rfl) (by kernel_rfl) (fun _ _ _ h => h) (Or.inl ⟨by rfl, ?_⟩) hHeld ?_
  · intro u hu
    go_simp
  try simp only [Act.put, List.setIfInBounds_toArray, List.set_cons_zero, List.set_cons_succ]
  refine wpAnyH_take (i := 3) (oi := { dst := some 6, op := Op.load 3 (Operand.tmp 5), type := 3, pos := _, after := #[{ on := 2, ground := Ground.data }], guard := none }) (v := .int .i64 Z.last) rfl (by kernel_rfl) (by kernel_rfl) (by kernel_rfl) (fun _ _ _ h => h) (Or.inl ⟨by rfl, ?_⟩) hHeld ?_
  · intro u hu
    have x1 := (H.later hu).cells.1; go_simp
  try simp only [Act.put, List.setIfInBounds_toArray, List.set_cons_zero, List.set_cons_succ]
  refine wpAnyH_take (i := 5) (oi := { dst := some 8, op := Op.move (Operand.tmp 0), type := 25, pos := _, after := #[], guard := none }) (v := .pointer (some ⟨h, 0, none⟩)) rfl (by kernel_rfl) (by kernel_rfl) (by kernel_rfl) (fun _ _ _ h => h) (Or.inl ⟨by rfl, ?_⟩) hHeld ?_
  · intro u hu
    go_simp
  try simp only [Act.put, List.setIfInBounds_toArray, List.set_cons_zero, List.set_cons_succ]
  refine wpAnyH_take (i := 6) (oi := { dst := some 9, op := Op.nilCheck (Operand.tmp 8), type := 0, pos := _, after := #[{ on := 5, ground := Ground.data }], guard := none }) (v := .pointer (some ⟨h, 0, none⟩)) rfl (by kernel_rfl) (by kernel_rfl) (by kernel_rfl) (fun _ _ _ h => h) (Or.inl ⟨by rfl, ?_⟩) hHeld ?_
  · intro u hu
    go_simp
  try simp only [Act.put, List.setIfInBounds_toArray, List.set_cons_zero, List.set_cons_succ]
  refine wpAnyH_take (i := 7) (oi := { dst := some 10, op := Op.fieldAddr 57 (Operand.tmp 9) 1, type := 0, pos := _, after := #[{ on := 6, ground := Ground.data }], guard := none }) (v := .pointer (some ⟨h, 1, none⟩)) rfl (by kernel_rfl) (by kernel_rfl) (by kernel_rfl) (fun _ _ _ h => h) (Or.inl ⟨by rfl, ?_⟩) hHeld ?_
  · intro u hu
    go_simp
  try simp only [Act.put, List.setIfInBounds_toArray, List.set_cons_zero, List.set_cons_succ]
  refine wpAnyH_take (i := 8) (oi := { dst := some 11, op := Op.load 22 (Operand.tmp 10), type := 22, pos := _, after := #[{ on := 7, ground := Ground.data }], guard := none }) (v := .slice a L.length c) rfl (by kernel_rfl) (by kernel_rfl) (by kernel_rfl) (fun _ _ _ h => h) (Or.inl ⟨by rfl, ?_⟩) hHeld ?_
  · intro u hu
    have x1 := (H.later hu).cells.2; go_simp
  try simp only [Act.put, List.setIfInBounds_toArray, List.set_cons_zero, List.set_cons_succ]
  refine wpAnyH_ready (rs := [4]) (by kernel_rfl) (by simp) ?_
  refine (AllReadyH.cons (o := { dst := some 7, op := Op.buildSlice 22 0 #[], type := 22, pos := _, after := #[], guard := none }) rfl (fun K hK => ?_) AllReadyH.nil)
  have zH1 := hHeld.size
  refine step_bs0P rfl (by rfl) ?_
  intro g9 w9 e9 o9 b9
  have W9 : w.heap.size ≤ g9 := Nat.le_trans zH1 e9
  refine hK.out _ _ (bnext hHeld b9 (Nat.le_refl _)) (fun hHeld => ?_)
  clear hK K
  try simp only [Act.put, List.setIfInBounds_toArray, List.set_cons_zero, List.set_cons_succ]
  refine wpAnyH_ready (rs := [9]) (by kernel_rfl) (by simp) ?_
  refine (AllReadyH.cons (o := { dst := some 12, op := Op.call { callee := Callee.builtin Builtin.append, args := #[Operand.tmp 7, Operand.tmp 11], argTypes := #[22, 22] }, type := 22, pos := _, after := #[{ on := 4, ground := Ground.data }, { on := 8, ground := Ground.data }], guard := none }) rfl (fun K hK => ?_) AllReadyH.nil)
  refine step_appR elP w.heap.size rfl _ _ (by rfl) (by rfl) o9 (fun r e => (ob_eq e) ▸ W9) a c (fl L) (by rfl) (fl_len L) hnil (H.later hHeld).row.news (fl_one L) (by simp only [List.length_nil]; omega) hHeld.size ?_
  intro v6 w11 hA
  have o11 : OwP w11 v6 L := ow_11 hA
  have n11 := hA.2.1
  have s11 := hA.2.2.2.1
  obtain ⟨xa, xn, xc, rfl⟩ := o11.shape'
  refine hK.out _ _ (((Stp.of_below hHeld (fun _ => False)).next s11 (fun x e => .inr ((ob_eq e) ▸ W9))).below (Nat.le_refl _) (fun x e => e.elim)) (fun hHeld => ?_)
  clear hK K
  try simp only [Act.put, List.setIfInBounds_toArray, List.set_cons_zero, List.set_cons_succ]
  refine wpAnyH_take (i := 10) (oi := { dst := some 13, op := Op.build 57 #[(0, Operand.tmp 6), (1, Operand.tmp 12)], type := 57, pos := _, after := #[{ on := 3, ground := Ground.data }, { on := 9, ground := Ground.data }], guard := none }) (v := .agg [Value.int .i64 Z.last, .slice xa xn xc].toArray) rfl (by kernel_rfl) (by kernel_rfl) (by kernel_rfl) (fun _ _ _ h => h)
    (yields_bRG (by rfl) _ _ (by rfl) Z.last ⟨xa, xn, xc⟩ (by rfl) (by rfl)) hHeld ?_
  try simp only [Act.put, List.setIfInBounds_toArray, List.set_cons_zero, List.set_cons_succ]
  refine wpAnyH_ready (rs := [11]) (by kernel_rfl) (by simp) ?_
  refine (AllReadyH.cons (o := { dst := some 14, op := Op.box 57 (Operand.tmp 13), type := 25, pos := _, after := #[{ on := 10, ground := Ground.data }], guard := none }) rfl (fun K hK => ?_) AllReadyH.nil)
  have zH11 := hHeld.size
  refine step_boxC 57 rfl _ (by rfl) [Value.int .i64 Z.last, .slice xa xn xc] (by rfl) (by simp [Value.oneCell']) ?_
  intro gq w12 e12 l12 c12 b12
  refine hK.out _ _ (bnext hHeld b12 (Nat.le_refl _)) (fun hHeld => ?_)
  clear hK K
  try simp only [Act.put, List.setIfInBounds_toArray, List.set_cons_zero, List.set_cons_succ]
  refine wpAnyH_take (i := 12) (oi := { dst := some 2, op := Op.assign (Operand.tmp 14), type := 25, pos := _, after := #[{ on := 11, ground := Ground.data }, { on := 9, ground := Ground.chain }, { on := 0, ground := Ground.phase }, { on := 1, ground := Ground.phase }, { on := 2, ground := Ground.phase }, { on := 3, ground := Ground.phase }, { on := 4, ground := Ground.phase }, { on := 5, ground := Ground.phase }, { on := 6, ground := Ground.phase }, { on := 7, ground := Ground.phase }, { on := 8, ground := Ground.phase }, { on := 9, ground := Ground.phase }, { on := 10, ground := Ground.phase }, { on := 11, ground := Ground.phase }], guard := none }) (v := .pointer (some ⟨gq, 0, none⟩)) rfl (by kernel_rfl) (by kernel_rfl) (by kernel_rfl) (fun _ _ _ h => h) (Or.inl ⟨by rfl, ?_⟩) hHeld ?_
  · intro u hu
    go_simp
  try simp only [Act.put, List.setIfInBounds_toArray, List.set_cons_zero, List.set_cons_succ]
  refine wpAnyH_done (by kernel_rfl) ?_ _
  have o12 := o11.later b12
  have hxn : xn = L.length := by
    obtain ⟨a', c', e, _, _⟩ := o12.shape
    injection e
  subst hxn
  go_wp2_with fail
  go_returns
  have hlt := o11.lt (r := gq)
  refine ⟨gq, rfl, ⟨fun x => (R x ∨ Made w w12 x) ∧ x ≠ gq, xa, xc, L, ⟨c12, o12, fun t ht => ?_, fun r hr => ⟨.inr ⟨n11 r hr, by have := o11.lt hr; have := b12.size; omega⟩, fun e => by have := o11.lt hr; omega⟩, fun hx => hx.2 rfl, fun x hx => ?_, H.eq, H.ok, H.nl⟩⟩, by omega, hHeld⟩
  · exact ((H.later hHeld).ms t ht).mono (fun x hx => ⟨.inl hx, fun e => by have := H.lt x hx; omega⟩)
  · rcases hx.1 with hx | hx
    · have := H.lt x hx; have := hHeld.size; omega
    · exact hx.2
end Go.Proofs.YtdfifneikmlmoaaGreat
namespace Go.Proofs.YtdfifneikmlmoaaGreat
open Go.ChangeShapes Go.WideShapes Go.ChangeAt Go.RowKit
set_option linter.unusedVariables false
set_option linter.unusedSimpArgs false

/-- Whether x is among l. -/
def hsI (l : List Int) (x : Int) : Bool := l.any fun y => y == x
theorem hsI_iff (l : List Int) (x : Int) : hsI l x = true ↔ x ∈ l := by
  unfold hsI; rw [List.any_eq_true]
  constructor
  · rintro ⟨y, h, e⟩; rw [beq_iff_eq] at e; subst e; exact h
  · intro h; exact ⟨x, h, by simp⟩
theorem hsI_step (l : List Int) (x : Int) (k : Nat) (hk : k < l.length) (h : hsI (l.take k) x = false) : hsI (l.take (k + 1)) x = (l.getD k 0 == x) := by
  unfold hsI at *
  rw [List.take_add_one, List.getElem?_eq_getElem hk, List.any_append, h, List.getD_eq_getElem?_getD, List.getElem?_eq_getElem hk]; simp
theorem hsI_yes (l : List Int) (x : Int) (k : Nat) (hk : k < l.length) (h : l.getD k 0 = x) : hsI l x = true := by
  rw [hsI_iff, ← h, List.getD_eq_getElem?_getD, List.getElem?_eq_getElem hk]; exact List.getElem_mem hk
set_option maxRecDepth 100000 in
set_option maxHeartbeats 1000000 in
theorem phas_any {w : World} {s : Sv} {l : List Int} (h : InsS w s l) (x : Int) :
    Calls Tryz.prog 36 #[.slice s.a s.n s.c, .int .i64 x] w fun e w' => e = .returned (.bool (hsI l x)) ∧ w = w' := by
  have hl := h.i.len
  have hcap : s.n ≤ 9223372036854775807 := by have := h.i.le; have := h.i.cap; unfold maxLen at this; omega
  have hcell := h.i.cell
  obtain ⟨sa, sn, sc⟩ := s
  simp only at hl hcell hcap ⊢
  subst hl
  clear h
  obtain ⟨r, hr⟩ : ∃ r : Bool, Hid (hsI l x = r) := ⟨_, rfl⟩
  rw [hr.out]
  go_enter Tryz.func36, Tryz.ntmps36
  go_wp2
  go_loopw [5] (fun v wr => wr = w ∧ ∃ k : Nat, k ≤ l.length ∧ v = .int .i64 (k : Int) ∧ hsI (l.take k) x = false) (fun v _ => l.length - (intOf v).toNat)
  case atStart => exact ⟨rfl, 0, Nat.zero_le _, rfl, rfl⟩
  case round =>
    obtain ⟨rfl, k, hk, rfl, hg⟩ := hrel
    by_cases hlt : k < l.length
    · obtain ⟨b, o, rfl, hcs⟩ := hcell (by omega)
      have ck := hcs k hlt
      have a9 : (k : Int) < (l.length : Int) := by omega
      have hyes := hsI_yes l x k hlt
      have hst : Hid (hsI (l.take (k + 1)) x = (l.getD k 0 == x)) := hsI_step l x k hlt hg
      generalize l.getD k 0 = y at *
      clear hcs hcell
      by_cases hy : y = x
      · have hrr : true = r := (hyes hy).symm.trans hr.out
        subst hrr
        subst hy
        clear hyes hst hr hg
        go_wp2
        go_returns
        exact ⟨rfl, rfl⟩
      · have hn : hsI (l.take (k + 1)) x = false := by rw [hst.out]; simp [hy]
        clear hyes hst hr hg
        go_wp2
        go_roundw
        case rel => exact ⟨trivial, k + 1, by omega, by go_num, hn⟩
        case measure => simp [intOf]; omega
    · have a9 : ¬ (k : Int) < (l.length : Int) := by omega
      rw [List.take_of_length_le (by omega)] at hg
      have hrr : false = r := hg.symm.trans hr.out
      subst hrr
      clear hr hg
      go_wp2
      go_returns
      exact ⟨rfl, rfl⟩
end Go.Proofs.YtdfifneikmlmoaaGreat
namespace Go.Proofs.YtdfifneikmlmoaaGreat
open Go.ChangeShapes Go.WideShapes Go.ChangeAt Go.RowKit
set_option linter.unusedVariables false
set_option linter.unusedSimpArgs false

theorem srtBr : Srt 38 2 (btc (.slice none 0 0) false) :=
  ⟨⟨_, Tryz.underlying38, rfl⟩, by kernel_rfl, fun w => (zero_of_info (v := .agg (btc (.slice none 0 0) false).toArray) (n := 2) (by kernel_rfl)).1 w, rfl, btc_one rfl _⟩
theorem buildR0 (w : World) : (Instr.build 38 #[]).run Tryz.prog w = .ok (.agg (btc (.slice none 0 0) false).toArray) w := by kernel_rfl
section
variable {ops : Array Oper} {rest : List Oper} {o : Oper} {a : Act} {w : World} {Q : Exit → Act → World → Prop}
theorem at_bldR0 (hw : Region.wanted o (yielded ops a.tmps) = true) (ho : o.op = .build 38 #[])
    (h : wpList Tryz.prog ops Q rest (a.put o.dst (.agg (btc (.slice none 0 0) false).toArray)) w) : wpList Tryz.prog ops Q (o :: rest) a w := by
  refine op_val hw _ _ ?_ h
  simp [execOp, ho, buildR0]
theorem at_newBr (hw : Region.wanted o (yielded ops a.tmps) = true) (ho : o.op = .alloc 38)
    (h : ∀ g w', w.heap.size ≤ g → g < w'.heap.size → Cs w' g (btc (.slice none 0 0) false) → Below w.heap.size w w' → wpList Tryz.prog ops Q rest (a.put o.dst (.pointer (some ⟨g, 0, none⟩))) w') : wpList Tryz.prog ops Q (o :: rest) a w :=
  at_newC 38 2 _ srtBr hw ho h
theorem at_getBr (hw : Region.wanted o (yielded ops a.tmps) = true) (y : Operand) (ho : o.op = .load 38 y) (g : Nat) (hx : a.eval y = .pointer (some ⟨g, 0, none⟩)) (v : Value) (b : Bool) (hR : Cs w g (btc v b))
    (h : wpList Tryz.prog ops Q rest (a.put o.dst (.agg (btc v b).toArray)) w) : wpList Tryz.prog ops Q (o :: rest) a w :=
  at_getC 38 2 _ srtBr hw y ho g hx (btc v b) hR rfl h
theorem at_putBr (hw : Region.wanted o (yielded ops a.tmps) = true) (y z : Operand) (ho : o.op = .store 38 y z) (g : Nat) (hx : a.eval y = .pointer (some ⟨g, 0, none⟩)) (v : Value) (hv : v.oneCell' = true) (b : Bool) (hy : a.eval z = .agg (btc v b).toArray) (cs : List Value) (hR : Cs w g cs) (hl : cs.length = 2)
    (h : ∀ w', Cs w' g (btc v b) → Stp (fun x => x = g) w w' → wpList Tryz.prog ops Q rest (a.put o.dst undef) w') : wpList Tryz.prog ops Q (o :: rest) a w :=
  at_putC 38 2 _ srtBr hw y z ho g hx (btc v b) hy rfl (btc_one hv b) cs hR hl h
end
/-- Whether a sector has one that is wanted, ready. -/
def rqS (is : List Int) (l : List Pt) (s : Int) : Bool := (rdy l s).any fun x => (ids (nd is l)).contains x
theorem bsS_snoc {is : List Int} {l : List Pt} {k : Nat} {s : Int} (h : (secs l)[k]? = some s) : ((secs l).take (k + 1)).filter (rqS is l) = ((secs l).take k).filter (rqS is l) ++ (if rqS is l s then [s] else []) := by
  rw [List.take_add_one, h, List.filter_append]
  congr 1
  cases hq : rqS is l s <;> simp [hq]
/-- Those written up to k are of that sector. -/
def frK (L : List Int) (l : List Pt) (k : Nat) : Bool := decide (L.length = 1) && ((thP l (·.wr)).take k).all fun p => decide (p.at' = L.headD 0)
theorem frK_end (L : List Int) (l : List Pt) {k : Nat} (h : (thP l (·.wr)).length ≤ k) : frK L l k = frS L l := by unfold frK frS; rw [List.take_of_length_le h]
theorem frK_no (L : List Int) (l : List Pt) {k : Nat} (h : frK L l k = false) : frS L l = false := by
  unfold frK at h
  unfold frS
  cases h1 : decide (L.length = 1) with
  | false => rfl
  | true =>
    rw [h1, Bool.true_and] at h
    rw [Bool.true_and]
    rw [List.all_eq_false] at h ⊢
    obtain ⟨p, h2, h3⟩ := h
    exact ⟨p, List.mem_of_mem_take h2, h3⟩
theorem frK_succ {L : List Int} {l : List Pt} {k : Nat} {p : Pt} (h : (thP l (·.wr))[k]? = some p) (hk : frK L l k = true) : frK L l (k + 1) = decide (p.at' = L.headD 0) := by
  unfold frK at hk ⊢
  rw [Bool.and_eq_true] at hk
  rw [List.take_add_one, h, List.all_append, hk.1, hk.2]
  simp
theorem frK_one {L : List Int} {l : List Pt} {k : Nat} (h : frK L l k = true) : ∃ x, L = [x] := by
  unfold frK at h
  rw [Bool.and_eq_true] at h
  exact List.length_eq_one_iff.1 (by simpa using h.1)
end Go.Proofs.YtdfifneikmlmoaaGreat
namespace Go.Proofs.YtdfifneikmlmoaaGreat
open Go.ChangeShapes Go.WideShapes Go.ChangeAt Go.RowKit
set_option linter.unusedVariables false
set_option linter.unusedSimpArgs false

theorem hsI_con (l : List Int) (x : Int) : hsI l x = l.contains x := by
  rw [Bool.eq_iff_iff, hsI_iff, List.contains_iff_mem]
theorem any_snoc {R : List Int} {k : Nat} {y : Int} (h : R[k]? = some y) (q : Int → Bool) : (R.take (k + 1)).any q = ((R.take k).any q || q y) := by
  rw [List.take_add_one, h, List.any_append]; simp
section
variable {ops : Array Oper} {rest : List Oper} {o : Oper} {a : Act} {w : World} {Q : Exit → Act → World → Prop}
/-- 'x.f = v', of a truth; of a slice. -/
theorem at_setBo (T : Nat) (hs : ∀ w, (sizeOf T).run Tryz.prog w = .ok 1 w) (hw : Region.wanted o (yielded ops a.tmps) = true) (x y : Operand) (ho : o.op = .store T x y) (g i : Nat) (hx : a.eval x = .pointer (some ⟨g, i, none⟩)) (n : Bool) (hy : a.eval y = .bool n) (cs : List Value) (hR : Cs w g cs) (hi : i < cs.length)
    (h : ∀ w', Cs w' g (cs.set i (.bool n)) → Stp (fun x => x = g) w w' → wpList Tryz.prog ops Q rest (a.put o.dst undef) w') : wpList Tryz.prog ops Q (o :: rest) a w := by
  refine op_unit hw _ ?_ (h (w.setCell ⟨g, i, none⟩ (.bool n)) (hR.set i _ rfl) ((Stp.refl (fun x => x = g) w).setCell (p := ⟨g, i, none⟩) (.inl rfl) _))
  have hc := hR.cell i _ (List.getElem?_eq_getElem hi)
  have hf := hR.frozen i
  simp [execOp, ho, hx, hy, Instr.storeAt, Instr.sureAddr]
  go_simp
theorem at_setSl (T : Nat) (hs : ∀ w, (sizeOf T).run Tryz.prog w = .ok 1 w) (hw : Region.wanted o (yielded ops a.tmps) = true) (x y : Operand) (ho : o.op = .store T x y) (g i : Nat) (hx : a.eval x = .pointer (some ⟨g, i, none⟩)) (s : Sv) (hy : a.eval y = .slice s.a s.n s.c) (cs : List Value) (hR : Cs w g cs) (hi : i < cs.length)
    (h : ∀ w', Cs w' g (cs.set i (.slice s.a s.n s.c)) → Stp (fun x => x = g) w w' → wpList Tryz.prog ops Q rest (a.put o.dst undef) w') : wpList Tryz.prog ops Q (o :: rest) a w := by
  refine op_unit hw _ ?_ (h (w.setCell ⟨g, i, none⟩ (.slice s.a s.n s.c)) (hR.set i _ rfl) ((Stp.refl (fun x => x = g) w).setCell (p := ⟨g, i, none⟩) (.inl rfl) _))
  have hc := hR.cell i _ (List.getElem?_eq_getElem hi)
  have hf := hR.frozen i
  simp [execOp, ho, hx, hy, Instr.storeAt, Instr.sureAddr]
  go_simp
end
theorem szBool : ∀ w, (sizeOf 4).run Tryz.prog w = .ok 1 w := fun w => by kernel_rfl
theorem szInts : ∀ w, (sizeOf 23).run Tryz.prog w = .ok 1 w := fun w => by kernel_rfl
/-- On the way over the sectors. -/
structure RnI (w4 w6 wr : World) (g4 g7 : Nat) (Z : GZ) (is : List Int) (s8 : Sv) (k : Nat) (vb : Value) : Prop where
  c4 : Cs wr g4 (btc (.slice none 0 0) false)
  cb : Cs wr g7 (btc vb false)
  ob : OwV wr vb (((secs Z.l).take k).filter (rqS is Z.l))
  nb : New w6.heap.size vb
  i8 : InsS wr s8 (secs Z.l)
  b : Below w4.heap.size w4 wr
  sz : w6.heap.size ≤ wr.heap.size
theorem RnI.later {w4 w6 wr w' : World} {g4 g7 : Nat} {Z : GZ} {is : List Int} {s8 : Sv} {k : Nat} {vb : Value} (I : RnI w4 w6 wr g4 g7 Z is s8 k vb) (b : Below wr.heap.size wr w') : RnI w4 w6 w' g4 g7 Z is s8 k vb :=
  ⟨I.c4.later b, I.cb.later b, I.ob.later b, I.nb, I.i8.later b, bnext I.b b (Nat.le_refl _), Nat.le_trans I.sz b.size⟩
set_option maxRecDepth 100000 in
set_option maxHeartbeats 8000000 in
theorem rnext_any {w : World} {h : Nat} {Z : GZ} {a : Option Addr} {c : Nat} {L : List Pe} {R : Nat → Prop} (H : Rf w h Z a c L R) {s : Sv} {is : List Int} (hs : InsS w s is) (hl : is.length ≤ 1000) :
    Calls Tryz.prog 10 #[.pointer (some ⟨h, 0, none⟩), .slice s.a s.n s.c] w fun e w' => ∃ v, e = .returned (.tuple #[.agg (btc v (frS (bsS is Z.l) Z.l)).toArray, .bool (mor is Z.l)]) ∧ OwV w' v (bsS is Z.l) ∧ New w.heap.size v ∧ Below w.heap.size w w' := by
  have hN := fun (u : World) (hu : Below w.heap.size w u) => rneeded_any (H.later hu) (hs.later hu) (by omega)
  have hok := H.ok
  have hwf := nd_wfi H.ok is
  have hidl : (ids (nd is Z.l)).length = (nd is Z.l).length := by unfold ids; rw [List.length_map]
  have t1 : Hid True := trivial
  have t2 : Hid True := trivial
  have t3 : Hid True := trivial
  by_cases hn : nd is Z.l = []
  · obtain ⟨e1, e2, e3⟩ := mor_no hn
    have hE : Hid (mor is Z.l = false ∧ bsS is Z.l = [] ∧ frS (bsS is Z.l) Z.l = false) := ⟨e1, e2, e3⟩
    rw [hn] at hN
    have hN' : Hid (∀ (u : World) (hu : Below w.heap.size w u), Calls Tryz.prog 33 #[.pointer (some ⟨h, 0, none⟩), .slice s.a s.n s.c] u fun e w' => ∃ v, e = .returned v ∧ OwV w' v (ids []) ∧ New u.heap.size v ∧ Below u.heap.size u w') := hN
    clear hN e1 e2 e3 hn hidl hwf
    go_enter Tryz.func10, Tryz.ntmps10
    go_wp2_with (first
      | (clear t1; refine at_newBr (by rfl) (by rfl) ?_; intro g1 w1 a1 a2 r1 b1)
      | (go_at_call 33; refine (hN'.out _ b1).mono ?_; rintro e w2 ⟨v2, rfl, o2, n2, b2⟩; clear hN'
         obtain ⟨xa, xc, rfl⟩ := OwV.zero o2
         replace r1 := r1.later b2)
      | (clear t2; refine at_bldR0 (by rfl) (by rfl) ?_)
      | (clear t3; refine at_putBr (by rfl) _ _ (by rfl) g1 (by rfl) (.slice none 0 0) rfl false (by rfl) _ r1 rfl ?_; intro w3 r3 s3))
    refine bodyPost_ret (retCt srtBr rfl rfl rfl r3 rfl) rfl ?_
    rw [hE.out.1, hE.out.2.2, hE.out.2.1]
    exact ⟨_, rfl, OwV.nil _, (fun r e => by cases e), ((Stp.of_below (bnext b1 b2 (Nat.le_refl _)) (fun _ => False)).next s3 (fun x e => .inr (by omega))).below (Nat.le_refl _) (fun x e => e.elim)⟩
  · have hE : Hid (mor is Z.l = true) := mor_yes hn
    have hne' : Hid (¬ ((ids (nd is Z.l)).length : Int) = 0) := fun e => by
      rw [hidl] at e
      exact hn (List.eq_nil_of_length_eq_zero (by omega))
    have hwsec : ∀ x ∈ secs Z.l, wfi x := fun x hx => by
      obtain ⟨y, hy⟩ := List.exists_mem_of_ne_nil _ (secs_mem.1 hx)
      obtain ⟨p, q1, q2, q3, _⟩ := wts_mem.1 hy
      have := fit_to (hok.ft p q1)
      exact wfi_of (by omega)
    have hsl := secs_len hok
    have hN' : Hid (∀ (u : World) (hu : Below w.heap.size w u), Calls Tryz.prog 33 #[.pointer (some ⟨h, 0, none⟩), .slice s.a s.n s.c] u fun e w' => ∃ v, e = .returned v ∧ OwV w' v (ids (nd is Z.l)) ∧ New u.heap.size v ∧ Below u.heap.size u w') := hN
    clear hN hn hidl
    have t4 : Hid True := trivial
    go_enter Tryz.func10, Tryz.ntmps10
    go_wp2_with (first
      | (clear t1; refine at_newBr (by rfl) (by rfl) ?_; intro g4 w1 a1 a2 r1 b1)
      | (go_at_call 33; refine (hN'.out _ b1).mono ?_; rintro e w4 ⟨v4, rfl, o4, n4, b4⟩; clear hN'
         obtain ⟨⟨ma, mn, mc⟩, e2, e3, i4, -⟩ := o4.ins hwf n4
         have e2v : v4 = .slice ma mn mc := e2
         clear e2
         subst e2v
         have hsn : ¬ (mn : Int) = 0 := by simp only at e3; rw [e3]; exact hne'.out
         clear e3
         have B4 := bnext b1 b4 (Nat.le_refl _)
         have r14 := r1.later b4)
      | (clear t2; refine at_bldR0 (by rfl) (by rfl) ?_)
      | (clear t3; refine at_newBr (by rfl) (by rfl) ?_; intro g7 w5 a5 a5' r5 b5)
      | (clear t4; refine at_putBr (by rfl) _ _ (by rfl) g7 (by rfl) (.slice none 0 0) rfl false (by rfl) _ r5 rfl ?_; intro w5' r5' s5'
         have B45 : Below w4.heap.size w4 w5' := ((Stp.of_below b5 (fun _ => False)).next s5' (fun x e => .inr (by omega))).below (Nat.le_refl _) (fun x e => e.elim)
         have hSe := rsectors_any (H.later (bnext B4 B45 (Nat.le_refl _))))
      | (go_at_call 34; refine hSe.mono ?_; rintro e w6 ⟨v6, rfl, o6, n6, b6⟩; clear hSe
         obtain ⟨⟨ta, tn, tc⟩, e5, e6, i6, j6⟩ := o6.ins hwsec n6
         have e5v : v6 = .slice ta tn tc := e5
         clear e5
         subst e5v))
    have hlt7 := r5'.lt
    have z6 := b6.size
    have zB45 := B45.size
    have hg4 : g4 < w4.heap.size := by have := r14.lt; omega
    have hg47 : g4 ≠ g7 := by omega
    have st : RnI w4 w6 w6 g4 g7 Z is ⟨ta, tn, tc⟩ 0 (.slice none 0 0) := ⟨(r14.later B45).later b6, r5'.later b6, OwV.nil _, (fun r e => by cases e), i6, bnext B45 b6 (Nat.le_refl _), Nat.le_refl _⟩
    try simp only at e6
    subst e6
    have hwS := hwsec
    clear r5 r5' s5' b5 B45 b6 o6 n6 o4 n4 r1 b1 b4 r14 i6
    go_loopw [9] (fun u wr => ∃ (k : Nat) (vb : Value), k ≤ (secs Z.l).length ∧ u = .int .i64 (k : Int) ∧ RnI w4 w6 wr g4 g7 Z is ⟨ta, (secs Z.l).length, tc⟩ k vb) (fun u _ => (secs Z.l).length - (intOf u).toNat)
    case atStart => exact ⟨0, _, Nat.zero_le _, rfl, st⟩
    case round =>
      clear st
      rename World => wq
      obtain ⟨k, vb, hk, rfl, I⟩ := hrel
      have BQ : Below w.heap.size w wq := bnext B4 I.b (Nat.le_refl _)
      by_cases hlt : k < (secs Z.l).length
      · have a9 : (k : Int) < ((secs Z.l).length : Int) := by omega
        have hkb : (k : Int) ≤ 2000 := by omega
        obtain ⟨tb, tto, e, hcs⟩ := I.i8.i.cell (by simpa using (by omega : 0 < (secs Z.l).length))
        have ck := hcs k (by simpa using hlt)
        simp only at e
        subst e
        obtain ⟨y, hy⟩ : ∃ y, (secs Z.l)[k]? = some y := ⟨_, List.getElem?_eq_getElem hlt⟩
        have ey : (secs Z.l).getD k 0 = y := by rw [List.getD_eq_getElem?_getD, hy]; rfl
        rw [ey] at ck
        have hwy : wfi y := hwS y (List.mem_of_getElem? hy)
        have hRd := rready_any (H.later BQ) y
        have hwr := rdy_wfi hok (by omega) y
        have hlr := rdy_len hok y
        have hsn : Hid (((secs Z.l).take (k + 1)).filter (rqS is Z.l) = ((secs Z.l).take k).filter (rqS is Z.l) ++ (if rqS is Z.l y then [y] else [])) := bsS_snoc hy
        have hrq : Hid (rqS is Z.l y = ((rdy Z.l y).any fun x => (ids (nd is Z.l)).contains x)) := by show _ = _; rfl
        have i4q := i4.later I.b
        clear hcs hy ey
        generalize rdy Z.l y = RD at *
        go_wp2_with (first
          | (go_at_call 35; refine hRd.mono ?_; rintro e w7 ⟨v7, rfl, o7, n7, b7⟩; clear hRd
             obtain ⟨⟨ra, rn, rc⟩, e7, e7', i7, -⟩ := o7.ins hwr n7
             have e7v : v7 = .slice ra rn rc := e7
             clear e7
             subst e7v))
        try simp only at e7'
        subst e7'
        have i47 := i4q.later b7
        have c77 := (Stp.of_below b7 (fun _ => False)).cell ck id
        clear ck o7 n7 i4q
        go_loopw [11, 12] (fun b u wr => ∃ k2 : Nat, k2 ≤ RD.length ∧ u = .int .i64 (k2 : Int) ∧ b = .bool ((RD.take k2).any fun x => (ids (nd is Z.l)).contains x) ∧ wr = w7) (fun _ u _ => RD.length - (intOf u).toNat)
        case atStart => exact ⟨0, Nat.zero_le _, rfl, rfl, rfl⟩
        case round =>
          obtain ⟨k2, hk2, rfl, rfl, rfl⟩ := hrel
          by_cases hl2 : k2 < RD.length
          · have d9 : (k2 : Int) < (RD.length : Int) := by omega
            have d8 : (k2 : Int) ≤ 2000 := by omega
            obtain ⟨ob, oo, e, hcs⟩ := i7.i.cell (by simpa using (by omega : 0 < RD.length))
            have ck := hcs k2 (by simpa using hl2)
            simp only at e
            subst e
            obtain ⟨z, hz⟩ : ∃ z, RD[k2]? = some z := ⟨_, List.getElem?_eq_getElem hl2⟩
            have ez : RD.getD k2 0 = z := by rw [List.getD_eq_getElem?_getD, hz]; rfl
            rw [ez] at ck
            have hstep : Hid ((RD.take (k2 + 1)).any (fun x => (ids (nd is Z.l)).contains x) = ((RD.take k2).any (fun x => (ids (nd is Z.l)).contains x) || (ids (nd is Z.l)).contains z)) := any_snoc hz _
            have hH := phas_any i47 z
            rw [hsI_con] at hH
            clear hcs hz ez
            cases hb : (RD.take k2).any fun x => (ids (nd is Z.l)).contains x with
            | true =>
              rw [hb] at hstep
              clear hH
              go_wp2_with fail
              go_roundw
              case rel => exact ⟨k2 + 1, by omega, by go_num, by rw [hstep.out]; rfl, by first | trivial | rfl⟩
              case measure => simp [intOf]; omega
            | false =>
              rw [hb] at hstep
              generalize (ids (nd is Z.l)).contains z = cz at *
              go_wp2_with (first
                | (go_at_call 36; refine hH.mono ?_; rintro e w9 ⟨rfl, rfl⟩; clear hH))
              go_roundw
              case rel => exact ⟨k2 + 1, by omega, by go_num, by rw [hstep.out]; simp, by first | trivial | rfl⟩
              case measure => simp [intOf]; omega
          · have d9 : ¬ (k2 : Int) < (RD.length : Int) := by omega
            have hrq2 : Hid (((RD.take k2).any fun x => (ids (nd is Z.l)).contains x) = rqS is Z.l y) := by
              show _ = _
              rw [List.take_of_length_le (by omega), hrq.out]
            generalize ((RD.take k2).any fun x => (ids (nd is Z.l)).contains x) = cb at *
            have I7 := I.later b7
            have hnb := I.nb
            have hsz := I.sz
            have htb : tb < w6.heap.size := (j6 ⟨tb, tto, none⟩ rfl (by simpa using (by omega : 0 < (secs Z.l).length))).2
            have hotb : ∀ r, vb.ownBlock = some r → w6.heap.size ≤ r := hnb
            have z7 := b7.size
            clear I i7 i47 b7 hrq
            cases cb with
            | false =>
              have hrq3 := hrq2.out
              have J : RnI w4 w6 wr g4 g7 Z is ⟨some ⟨tb, tto, none⟩, (secs Z.l).length, tc⟩ (k + 1) vb := ⟨I7.c4, I7.cb, by rw [hsn.out, ← hrq3]; simpa using I7.ob, I7.nb, I7.i8, I7.b, I7.sz⟩
              clear hrq3
              go_wp2_with fail
              go_roundw
              case rel => exact ⟨k + 1, vb, by omega, by go_num, J⟩
              case measure => simp [intOf]; omega
            | true =>
              have hrq3 := hrq2.out
              have hob := I7.ob
              have hsn2 : Hid (((secs Z.l).take (k + 1)).filter (rqS is Z.l) = ((secs Z.l).take k).filter (rqS is Z.l) ++ [y]) := by show _ = _; rw [hsn.out, ← hrq3]; rfl
              have hle : (((secs Z.l).take k).filter (rqS is Z.l)).length + 1 ≤ 1000000 := by
                have h1 := List.length_filter_le (rqS is Z.l) ((secs Z.l).take k)
                rw [List.length_take] at h1
                omega
              have hle' : Hid ((((secs Z.l).take k).filter (rqS is Z.l)).length + 1 ≤ 1000000) := hle
              clear hrq3 hle
              have hcb := I7.cb
              obtain ⟨va, vn, vc, rfl⟩ := hob.shape
              have hvn : vn = (((secs Z.l).take k).filter (rqS is Z.l)).length := by
                rcases hob.row with ⟨e1, e2⟩ | ⟨_, _, _, e1, _⟩
                · rw [e2]; cases e1; rfl
                · cases e1; rfl
              subst hvn
              have hog7 : (Value.slice va (((secs Z.l).take k).filter (rqS is Z.l)).length vc).ownBlock ≠ some g7 := fun e => by have := hotb g7 e; omega
              have hogt : (Value.slice va (((secs Z.l).take k).filter (rqS is Z.l)).length vc).ownBlock ≠ some tb := fun e => by have := hotb tb e; omega
              generalize hFL : ((secs Z.l).take k).filter (rqS is Z.l) = FL at *
              have a8 : (0 : Int) ≤ (k : Int) := by omega
              go_wp2_with fail
              refine wp_region_last (S := fun u => Stp (fun x => (Value.slice va FL.length vc).ownBlock = some x) wr u) _ _ (by simp only [List.pop_toArray, List.dropLast_cons_cons, List.dropLast_singleton]; rfl) (by simp only [List.back?_toArray, List.getLast?_cons_cons, List.getLast?_singleton]; rfl) (by kernel_rfl) (by kernel_rfl) (Stp.refl _ _).drew (fun hHeld => ?_)
              refine wpAnyH_take (i := 0) (oi := { dst := some 55, op := Op.fieldAddr 38 (Operand.tmp 7) 0, type := 0, pos := _, after := #[], guard := none }) (v := .pointer (some ⟨g7, 0, none⟩)) rfl (by kernel_rfl) (by kernel_rfl) (by kernel_rfl) (fun _ _ _ h => h) (Or.inl ⟨by rfl, ?_⟩) hHeld ?_
              · intro u hu
                go_simp
              try simp only [Act.put, List.setIfInBounds_toArray, List.set_cons_zero, List.set_cons_succ]
              refine wpAnyH_take (i := 1) (oi := { dst := some 56, op := Op.load 23 (Operand.tmp 55), type := 23, pos := _, after := #[{ on := 0, ground := Ground.data }], guard := none }) (v := .slice va FL.length vc) rfl (by kernel_rfl) (by kernel_rfl) (by kernel_rfl) (fun _ _ _ h => h) (Or.inl ⟨by rfl, ?_⟩) hHeld ?_
              · intro u hu
                have x1 := (hcb.step hu hog7).cell 0 _ rfl; go_simp
              try simp only [Act.put, List.setIfInBounds_toArray, List.set_cons_zero, List.set_cons_succ]
              refine wpAnyH_take (i := 2) (oi := { dst := some 57, op := Op.move (Operand.tmp 8), type := 23, pos := _, after := #[], guard := none }) (v := .slice (some ⟨tb, tto, none⟩) (secs Z.l).length tc) rfl (by kernel_rfl) (by kernel_rfl) (by kernel_rfl) (fun _ _ _ h => h) (Or.inl ⟨by rfl, ?_⟩) hHeld ?_
              · intro u hu
                go_simp
              try simp only [Act.put, List.setIfInBounds_toArray, List.set_cons_zero, List.set_cons_succ]
              refine wpAnyH_take (i := 3) (oi := { dst := some 58, op := Op.move (Operand.tmp 9), type := 3, pos := _, after := #[], guard := none }) (v := .int .i64 (k : Int)) rfl (by kernel_rfl) (by kernel_rfl) (by kernel_rfl) (fun _ _ _ h => h) (Or.inl ⟨by rfl, ?_⟩) hHeld ?_
              · intro u hu
                go_simp
              try simp only [Act.put, List.setIfInBounds_toArray, List.set_cons_zero, List.set_cons_succ]
              refine wpAnyH_take (i := 4) (oi := { dst := some 59, op := Op.indexAddr 23 (Operand.tmp 57) (Operand.tmp 58), type := 0, pos := _, after := #[{ on := 2, ground := Ground.data }, { on := 3, ground := Ground.data }], guard := none }) (v := .pointer (some ⟨tb, tto + k, none⟩)) rfl (by kernel_rfl) (by kernel_rfl) (by kernel_rfl) (fun _ _ _ h => h) (Or.inl ⟨by rfl, ?_⟩) hHeld ?_
              · intro u hu
                go_simp
              try simp only [Act.put, List.setIfInBounds_toArray, List.set_cons_zero, List.set_cons_succ]
              refine wpAnyH_take (i := 5) (oi := { dst := some 60, op := Op.load 3 (Operand.tmp 59), type := 3, pos := _, after := #[{ on := 4, ground := Ground.data }], guard := none }) (v := .int .i64 y) rfl (by kernel_rfl) (by kernel_rfl) (by kernel_rfl) (fun _ _ _ h => h) (Or.inl ⟨by rfl, ?_⟩) hHeld ?_
              · intro u hu
                have x1 := hu.cell c77 hogt; go_simp
              try simp only [Act.put, List.setIfInBounds_toArray, List.set_cons_zero, List.set_cons_succ]
              refine wpAnyH_ready (rs := [6]) (by kernel_rfl) (by simp) ?_
              refine (AllReadyH.cons (o := { dst := some 61, op := Op.buildSlice 23 1 #[(0, Operand.tmp 60)], type := 23, pos := _, after := #[{ on := 5, ground := Ground.data }], guard := none }) rfl (fun K hK => ?_) AllReadyH.nil)
              refine step_bsI rfl _ (by rfl) y (by rfl) ?_
              have ba : Below wr.heap.size wr (wr.drew.alloc (.cells #[.int .i64 y] 3)) := ((Below.refl _ wr).drew).alloc (Nat.le_refl _) _
              refine hK.out _ _ (Stp.of_below ba _) (fun hHeld => ?_)
              clear hK K
              try simp only [Act.put, List.setIfInBounds_toArray, List.set_cons_zero, List.set_cons_succ]
              refine wpAnyH_ready (rs := [7]) (by kernel_rfl) (by simp) ?_
              refine (AllReadyH.cons (o := { dst := some 62, op := Op.call { callee := Callee.builtin Builtin.append, args := #[Operand.tmp 56, Operand.tmp 61], argTypes := #[23, 23] }, type := 23, pos := _, after := #[{ on := 1, ground := Ground.data }, { on := 6, ground := Ground.data }], guard := none }) rfl (fun K hK => ?_) AllReadyH.nil)
              refine step_appR elI w6.heap.size rfl _ _ (by rfl) (by rfl) (ro_later hob ba) hotb (some ⟨wr.drew.heap.size, 0, none⟩) 1 [.int .i64 y] (by rfl) (by simp) (fun e => by cases e) (fun ad e => by injection e with e; subst e; exact cell_one_new _ _ _) (by simp [Value.oneCell']) hle'.out (Nat.le_trans I7.sz ba.size) ?_
              intro v9 w9 hA
              obtain ⟨A1, A2, A3, A4, -⟩ := hA
              have s9 : Stp (fun x => (Value.slice va FL.length vc).ownBlock = some x) wr w9 := (Stp.of_below ba _).trans A4
              refine hK.out _ _ (s9) (fun hHeld => ?_)
              clear hK K
              try simp only [Act.put, List.setIfInBounds_toArray, List.set_cons_zero, List.set_cons_succ]
              refine wpAnyH_take (i := 8) (oi := { dst := some 63, op := Op.fieldAddr 38 (Operand.tmp 7) 0, type := 0, pos := _, after := #[{ on := 0, ground := Ground.phase }, { on := 1, ground := Ground.phase }, { on := 2, ground := Ground.phase }, { on := 3, ground := Ground.phase }, { on := 4, ground := Ground.phase }, { on := 5, ground := Ground.phase }, { on := 6, ground := Ground.phase }, { on := 7, ground := Ground.phase }], guard := none }) (v := .pointer (some ⟨g7, 0, none⟩)) rfl (by kernel_rfl) (by kernel_rfl) (by kernel_rfl) (fun _ _ _ h => h) (Or.inl ⟨by rfl, ?_⟩) hHeld ?_
              · intro u hu
                go_simp
              try simp only [Act.put, List.setIfInBounds_toArray, List.set_cons_zero, List.set_cons_succ]
              refine wpAnyH_done (by kernel_rfl) ?_ _
              have o9 : OwV w9 v9 (FL ++ [y]) := by unfold OwV; simpa using A1
              obtain ⟨ua, un, uc, rfl⟩ := o9.shape
              show wpList _ _ _ [_] _ _
              refine at_setSl 23 szInts (by rfl) _ _ (by rfl) g7 0 (by rfl) ⟨ua, un, uc⟩ (by rfl) _ (hcb.step s9 hog7) (by exact (show 0 < 2 by decide)) ?_
              intro w10 r10 s10
              have n9 : ∀ r, (Value.slice ua un uc).ownBlock = some r → w6.heap.size ≤ r := A2
              have hI8 := I7.i8
              have J : RnI w4 w6 w10 g4 g7 Z is ⟨some ⟨tb, tto, none⟩, (secs Z.l).length, tc⟩ (k + 1) (.slice ua un uc) := by
                refine ⟨(I7.c4.step s9 (fun e => by have := hotb g4 e; omega)).step s10 hg47, r10, ?_, n9, ?_, ?_, by have := s9.size; have := s10.size; have := I7.sz; omega⟩
                · rw [hsn2.out]; exact o9.step s10 (fun r hr e => by have := n9 r hr; omega)
                · have h1 := hI8.step (E := fun x => x < w6.heap.size ∧ x ≠ g7) s9 (fun ad e hn => by have := j6 ad e hn; exact ⟨this.2, by have := this.1; omega⟩) (fun x hx e => by have := hotb x e; have := hx.1; omega)
                  exact h1.step (E := fun x => x < w6.heap.size ∧ x ≠ g7) s10 (fun ad e hn => by have := j6 ad e hn; exact ⟨this.2, by have := this.1; omega⟩) (fun x hx e => hx.2 e)
                · exact ((Stp.of_below I7.b (fun _ => False)).next s9 (fun x e => .inr (by have := hotb x e; omega))).next s10 (fun x e => .inr (by omega)) |>.below (Nat.le_refl _) (fun x e => e.elim)
              clear hHeld
              simp only [Act.put]
              go_wp2_with fail
              go_roundw
              case rel => exact ⟨k + 1, _, by omega, by go_num, J⟩
              case measure => simp [intOf]; omega
      · have a9 : ¬ (k : Int) < ((secs Z.l).length : Int) := by omega
        have hbs : ((secs Z.l).take k).filter (rqS is Z.l) = bsS is Z.l := by rw [List.take_of_length_le (by omega)]; rfl
        have hob := I.ob
        rw [hbs] at hob
        have hWt : ∀ (u : World) (hu : Below w.heap.size w u), Calls Tryz.prog 15 #[.pointer (some ⟨h, 0, none⟩)] u fun e w' => ∃ v, e = .returned v ∧ OwV w' v (ids (thP Z.l (·.wr))) ∧ New u.heap.size v ∧ Below u.heap.size u w' := fun u hu => rwritten_any (H.later hu)
        have hWt' : Hid (∀ (u : World) (hu : Below w.heap.size w u), Calls Tryz.prog 15 #[.pointer (some ⟨h, 0, none⟩)] u fun e w' => ∃ v, e = .returned v ∧ OwV w' v (ids (thP Z.l (·.wr))) ∧ New u.heap.size v ∧ Below u.heap.size u w') := hWt
        have hGt : Hid (∀ (u : World) (hu : Below w.heap.size w u) (i : Int), Calls Tryz.prog 37 #[.pointer (some ⟨h, 0, none⟩), .int .i64 i] u fun e w' => ∃ d n : Sv, e = .returned (.tuple #[.agg ((gt Z.l i).cs d n).toArray, .int .i64 (gE Z.l i)]) ∧ PtM w' (Made u w') (gt Z.l i) d n ∧ Below u.heap.size u w') := fun u hu i => rget_any (H.later hu) i
        have hww : ∀ i ∈ ids (thP Z.l (·.wr)), wfi i := fun i hi => by
          obtain ⟨p, h2, h3⟩ := ids_mem.1 hi
          rw [← h3]; exact (hok.wfp (List.mem_filter.1 h2).1).i
        have hwl : (thP Z.l (·.wr)).length ≤ 2000 := by
          have h2 := hok.few
          have h3 : (thP Z.l (·.wr)).length ≤ Z.l.length := List.length_filter_le _ _
          omega
        have hgtp : Hid (∀ p ∈ thP Z.l (·.wr), gt Z.l p.id = p) := fun p hp => by unfold gt; rw [fnd_of hok.srt (List.mem_filter.1 hp).1]; rfl
        have hfrE := fun (j : Nat) => frK_end (bsS is Z.l) Z.l (k := j)
        have hfrN := fun (j : Nat) => frK_no (bsS is Z.l) Z.l (k := j)
        have hfr0 : Hid (frK (bsS is Z.l) Z.l 0 = decide (((bsS is Z.l).length : Int) = 1)) := by
          show _ = _
          unfold frK
          rw [List.take_zero, List.all_nil, Bool.and_true, Bool.eq_iff_iff]
          simp; omega
        have hcb := I.cb
        have hc4 := I.c4
        have hnb := I.nb
        have hsz := I.sz
        have hIb := I.b
        obtain ⟨va, vn, vc, rfl⟩ := hob.shape
        have hvn : vn = (bsS is Z.l).length := by
          rcases hob.row with ⟨e1, e2⟩ | ⟨_, _, _, e1, _⟩
          · rw [e2]; cases e1; rfl
          · cases e1; rfl
        subst hvn
        have x0 := hcb.cell 0 _ rfl
        clear I hbs hWt
        generalize hS : bsS is Z.l = S at *
        have t5 : Hid True := trivial
        go_wp2_with (first
          | (clear t5; refine at_setBo 4 szBool (by rfl) _ _ (by rfl) g7 1 (by rfl) (decide ((S.length : Int) = 1)) (by rfl) _ hcb (by exact (show 1 < 2 by decide)) ?_; intro w8 r8 s8
             have B8 : Below w4.heap.size w4 w8 := ((Stp.of_below hIb (fun _ => False)).next s8 (fun x e => .inr (by omega))).below (Nat.le_refl _) (fun x e => e.elim)
             have hWt2 := hWt'.out _ (bnext B4 B8 (Nat.le_refl _)))
          | (go_at_call 15; refine hWt2.mono ?_; rintro e w9 ⟨v9, rfl, o9, n9, b9⟩; clear hWt2
             obtain ⟨⟨pa, pn, pc⟩, e9, e9', i9, j9⟩ := o9.ins hww n9
             have e9v : v9 = .slice pa pn pc := e9
             clear e9
             subst e9v
             have e9h : Hid (pn = (ids (thP Z.l (·.wr))).length) := e9'
             clear e9'))
        have e9' := e9h.out
        have hidl2 : (ids (thP Z.l (·.wr))).length = (thP Z.l (·.wr)).length := by unfold ids; rw [List.length_map]
        rw [hidl2] at e9'
        subst e9'
        clear hidl2 e9h
        have ob9 : OwV w9 (.slice va S.length vc) S := (hob.step s8 (fun r hr e => by have := hnb r hr; omega)).later b9
        have r89 : Cs w9 g7 (btc (.slice va S.length vc) (frK S Z.l 0)) := by rw [hfr0.out]; exact r8.later b9
        have c49 := (hc4.step s8 hg47).later b9
        have B9 := bnext B8 b9 (Nat.le_refl _)
        have z89 : w6.heap.size ≤ w9.heap.size := by have := s8.size; have := b9.size; omega
        have hwW := hwl
        have hz8w : Hid (g7 < w8.heap.size) := by show _ < _; have := s8.size; omega
        clear x0 hcb hob hc4 r8 s8 b9 B8 o9 n9 hIb hfr0 hWt'
        go_loopw [14] (fun u wr => ∃ j : Nat, j ≤ (thP Z.l (·.wr)).length ∧ u = .int .i64 (j : Int) ∧ Cs wr g4 (btc (.slice none 0 0) false) ∧ Cs wr g7 (btc (.slice va S.length vc) (frK S Z.l j)) ∧ OwV wr (.slice va S.length vc) S ∧ InsS wr ⟨pa, (thP Z.l (·.wr)).length, pc⟩ (ids (thP Z.l (·.wr))) ∧ Below w4.heap.size w4 wr ∧ w9.heap.size ≤ wr.heap.size) (fun u _ => (thP Z.l (·.wr)).length - (intOf u).toNat)
        case atStart => exact ⟨0, Nat.zero_le _, rfl, c49, r89, ob9, i9, B9, Nat.le_refl _⟩
        case round =>
          rename World => wx
          clear c49 r89 ob9 i9 B9
          obtain ⟨j, hj, rfl, c4x, c7x, obx, i9x, BX, zx⟩ := hrel
          have fin : frK S Z.l j = frS S Z.l → ∀ (u : World), Cs u g4 (btc (.slice va S.length vc) (frK S Z.l j)) → Stp (fun x => x = g4) wx u → ∃ v, Ending.returned (.tuple #[.agg (btc (.slice va S.length vc) (frK S Z.l j)).toArray, .bool true]) = .returned (.tuple #[.agg (btc v (frS S Z.l)).toArray, .bool (mor is Z.l)]) ∧ OwV u v S ∧ New w.heap.size v ∧ Below w.heap.size w u := fun e u r su => by
            rw [e, hE.out]
            have hz4 := B4.size
            exact ⟨_, rfl, obx.step su (fun r hr e => by have := hnb r hr; omega), fun r hr => by have := hnb r hr; omega, ((Stp.of_below (bnext B4 BX (Nat.le_refl _)) (fun _ => False)).next su (fun x e => .inr (by omega))).below (Nat.le_refl _) (fun x e => e.elim)⟩
          have t5 : Hid True := trivial
          have t6 : Hid True := trivial
          by_cases hjl : j < (thP Z.l (·.wr)).length
          · have d9 : (j : Int) < ((thP Z.l (·.wr)).length : Int) := by omega
            have d8 : (j : Int) ≤ 2000 := by omega
            have x1 := c7x.cell 1 _ rfl
            cases hfk : frK S Z.l j with
            | false =>
              have hf : frK S Z.l j = frS S Z.l := by rw [hfk, hfrN j hfk]
              have fin2 := fin hf
              rw [hfk] at fin2 c7x x1
              clear fin hf
              go_wp2_with (first
                | (clear t5; refine at_getBr (by rfl) _ (by rfl) g7 (by rfl) (.slice va S.length vc) false c7x ?_)
                | (clear t6; refine at_putBr (by rfl) _ _ (by rfl) g4 (by rfl) (.slice va S.length vc) rfl false (by rfl) _ c4x rfl ?_; intro w10 r10 s10))
              exact bodyPost_ret (retCt srtBr rfl rfl rfl r10 rfl) rfl (fin2 w10 r10 s10)
            | true =>
              obtain ⟨x, hSx⟩ := frK_one hfk
              obtain ⟨p, hp⟩ : ∃ p, (thP Z.l (·.wr))[j]? = some p := ⟨_, List.getElem?_eq_getElem hjl⟩
              have hsucc : Hid (frK S Z.l (j + 1) = decide (p.at' = S.headD 0)) := frK_succ hp hfk
              have hG := hGt.out wx (bnext B4 BX (Nat.le_refl _)) p.id
              rw [hgtp.out p (List.mem_of_getElem? hp)] at hG
              generalize gE Z.l p.id = ge at *
              rw [hfk] at c7x x1
              obtain ⟨ob, oo, e, hcs⟩ := i9x.i.cell (by simpa using (by omega : 0 < (thP Z.l (·.wr)).length))
              have ck := hcs j (by simpa using hjl)
              simp only at e
              subst e
              have eid : (ids (thP Z.l (·.wr))).getD j 0 = p.id := by
                unfold ids
                rw [List.getD_eq_getElem?_getD, List.getElem?_map, hp]; rfl
              rw [eid] at ck
              have hx1 : S.headD 0 = x := by rw [hSx]; rfl
              have hSl : S.length = 1 := by rw [hSx]; rfl
              obtain ⟨xb, xcap, xcur, ex, hrow⟩ := obx.row1 (by rw [hSx]; simp)
              injection ex with ex1 ex2 ex3
              subst ex1; subst ex3; clear ex2
              have cx : wx.cell? ⟨xb, 0, none⟩ = some (.int .i64 x) := by
                have := hrow.cell 0 (by omega)
                rw [hSx] at this
                exact this
              rw [hx1] at hsucc
              have hSne : Hid (S ≠ []) := fun e => by rw [e] at hSl; cases hSl
              have hxb : w6.heap.size ≤ xb := hnb xb rfl
              clear hcs eid fin hp hrow hSx hx1 hSl hGt hgtp
              have t7 : Hid True := trivial
              have t8 : Hid True := trivial
              clear t5 t6
              go_wp2_with (first
                | (go_at_call 37; refine hG.mono ?_; rintro e w10 ⟨d, n', rfl, m10, b10⟩; clear hG)
                | (clear t7; refine at_newP (by rfl) (by rfl) ?_; intro g15 w11 a11 a11' r11 b11)
                | (clear t8; refine at_putP (by rfl) _ _ (by rfl) g15 (by rfl) p d n' (by rfl) _ r11 rfl ?_; intro w12 r12 s12))
              have B12 : Below wx.heap.size wx w12 := ((Stp.of_below (bnext b10 b11 (Nat.le_refl _)) (fun _ => False)).next s12 (fun y e => .inr (by have := b10.size; omega))).below (Nat.le_refl _) (fun y e => e.elim)
              have c712 := c7x.later B12
              have cx12 := (Stp.of_below B12 (fun _ => False)).cell cx id
              refine wp_region_last (S := fun u => Below w12.heap.size w12 u) _ _ (by simp only [List.pop_toArray, List.dropLast_cons_cons, List.dropLast_singleton]; rfl) (by simp only [List.back?_toArray, List.getLast?_cons_cons, List.getLast?_singleton]; rfl) (by kernel_rfl) (by kernel_rfl) (Below.refl _ _).drew (fun hHeld => ?_)
              refine wpAnyH_take (i := 0) (oi := { dst := some 90, op := Op.fieldAddr 54 (Operand.tmp 15) 1, type := 0, pos := _, after := #[], guard := none }) (v := .pointer (some ⟨g15, 1, none⟩)) rfl (by kernel_rfl) (by kernel_rfl) (by kernel_rfl) (fun _ _ _ h => h) (Or.inl ⟨by rfl, ?_⟩) hHeld ?_
              · intro u hu
                go_simp
              try simp only [Act.put, List.setIfInBounds_toArray, List.set_cons_zero, List.set_cons_succ]
              refine wpAnyH_take (i := 1) (oi := { dst := some 91, op := Op.load 3 (Operand.tmp 90), type := 3, pos := _, after := #[{ on := 0, ground := Ground.data }], guard := none }) (v := .int .i64 p.at') rfl (by kernel_rfl) (by kernel_rfl) (by kernel_rfl) (fun _ _ _ h => h) (Or.inl ⟨by rfl, ?_⟩) hHeld ?_
              · intro u hu
                have x1 := (Pt.cells (r12.later hu)).2.1; go_simp
              try simp only [Act.put, List.setIfInBounds_toArray, List.set_cons_zero, List.set_cons_succ]
              refine wpAnyH_take (i := 2) (oi := { dst := some 92, op := Op.fieldAddr 38 (Operand.tmp 7) 0, type := 0, pos := _, after := #[], guard := none }) (v := .pointer (some ⟨g7, 0, none⟩)) rfl (by kernel_rfl) (by kernel_rfl) (by kernel_rfl) (fun _ _ _ h => h) (Or.inl ⟨by rfl, ?_⟩) hHeld ?_
              · intro u hu
                go_simp
              try simp only [Act.put, List.setIfInBounds_toArray, List.set_cons_zero, List.set_cons_succ]
              refine wpAnyH_take (i := 3) (oi := { dst := some 93, op := Op.load 23 (Operand.tmp 92), type := 23, pos := _, after := #[{ on := 2, ground := Ground.data }], guard := none }) (v := .slice (some ⟨xb, 0, none⟩) S.length vc) rfl (by kernel_rfl) (by kernel_rfl) (by kernel_rfl) (fun _ _ _ h => h) (Or.inl ⟨by rfl, ?_⟩) hHeld ?_
              · intro u hu
                have x1 := (c712.later hu).cell 0 _ rfl; go_simp
              try simp only [Act.put, List.setIfInBounds_toArray, List.set_cons_zero, List.set_cons_succ]
              refine wpAnyH_take (i := 4) (oi := { dst := some 94, op := Op.indexAddr 23 (Operand.tmp 93) (Operand.const (Value.int IntKind.i64 0)), type := 0, pos := _, after := #[{ on := 3, ground := Ground.data }], guard := none }) (v := .pointer (some ⟨xb, 0, none⟩)) rfl (by kernel_rfl) (by kernel_rfl) (by kernel_rfl) (fun _ _ _ h => h) (Or.inl ⟨by rfl, ?_⟩) hHeld ?_
              · intro u hu
                go_simp; exact fun e => (hSne.out e).elim
              try simp only [Act.put, List.setIfInBounds_toArray, List.set_cons_zero, List.set_cons_succ]
              refine wpAnyH_take (i := 5) (oi := { dst := some 95, op := Op.load 3 (Operand.tmp 94), type := 3, pos := _, after := #[{ on := 4, ground := Ground.data }], guard := none }) (v := .int .i64 x) rfl (by kernel_rfl) (by kernel_rfl) (by kernel_rfl) (fun _ _ _ h => h) (Or.inl ⟨by rfl, ?_⟩) hHeld ?_
              · intro u hu
                have x1 := (Stp.of_below hu (fun _ => False)).cell cx12 id; go_simp
              try simp only [Act.put, List.setIfInBounds_toArray, List.set_cons_zero, List.set_cons_succ]
              refine wpAnyH_take (i := 6) (oi := { dst := some 96, op := Op.binOp BinOp.eql 3 (Operand.tmp 91) (Operand.tmp 95) 3, type := 4, pos := _, after := #[{ on := 1, ground := Ground.data }, { on := 5, ground := Ground.data }], guard := none }) (v := .bool (p.at' == x)) rfl (by kernel_rfl) (by kernel_rfl) (by kernel_rfl) (fun _ _ _ h => h) (Or.inl ⟨by rfl, ?_⟩) hHeld ?_
              · intro u hu
                go_simp
              try simp only [Act.put, List.setIfInBounds_toArray, List.set_cons_zero, List.set_cons_succ]
              refine wpAnyH_take (i := 7) (oi := { dst := some 97, op := Op.fieldAddr 38 (Operand.tmp 7) 1, type := 0, pos := _, after := #[{ on := 0, ground := Ground.phase }, { on := 1, ground := Ground.phase }, { on := 2, ground := Ground.phase }, { on := 3, ground := Ground.phase }, { on := 4, ground := Ground.phase }, { on := 5, ground := Ground.phase }, { on := 6, ground := Ground.phase }], guard := none }) (v := .pointer (some ⟨g7, 1, none⟩)) rfl (by kernel_rfl) (by kernel_rfl) (by kernel_rfl) (fun _ _ _ h => h) (Or.inl ⟨by rfl, ?_⟩) hHeld ?_
              · intro u hu
                go_simp
              try simp only [Act.put, List.setIfInBounds_toArray, List.set_cons_zero, List.set_cons_succ]
              refine wpAnyH_done (by kernel_rfl) ?_ _
              have c713 := c712.later hHeld
              have B13 := bnext B12 hHeld (Nat.le_refl _)
              generalize w12.drew = w13 at *
              show wpList _ _ _ [_] _ _
              refine at_setBo 4 szBool (by rfl) _ _ (by rfl) g7 1 (by rfl) (p.at' == x) (by rfl) _ c713 (by exact (show 1 < 2 by decide)) ?_
              intro w14 r14 s14
              have hbe : (p.at' == x) = decide (p.at' = x) := by rw [Bool.eq_iff_iff]; simp
              have r14' : Cs w14 g7 (btc (.slice (some ⟨xb, 0, none⟩) S.length vc) (frK S Z.l (j + 1))) := by rw [hsucc.out, ← hbe]; exact r14
              have c414 := (c4x.later B13).step s14 hg47
              have ob14 := (obx.later B13).step s14 (fun r hr e => by have := hnb r hr; omega)
              have i914 := (i9x.later B13).step (E := fun y => y ≠ g7) s14 (fun ad e hn => by have := j9 ad e hn; have := this.1; have := hz8w.out; intro e'; omega) (fun y hy e => hy e)
              have B14 : Below w4.heap.size w4 w14 := ((Stp.of_below (bnext BX B13 (Nat.le_refl _)) (fun _ => False)).next s14 (fun y e => .inr (by omega))).below (Nat.le_refl _) (fun y e => e.elim)
              have z14 : w9.heap.size ≤ w14.heap.size := by have := B13.size; have := s14.size; omega
              clear hHeld c713 c712 cx12 cx r12 c7x x1 ck
              simp only [Act.put]
              go_wp2_with fail
              go_roundw
              case rel => exact ⟨j + 1, by omega, by go_num, c414, r14', ob14, i914, B14, z14⟩
              case measure => simp [intOf]; omega
          · have d9 : ¬ (j : Int) < ((thP Z.l (·.wr)).length : Int) := by omega
            have hf := hfrE j (by omega)
            have fin2 := fin hf
            clear fin hf
            generalize frK S Z.l j = fk at *
            go_wp2_with (first
              | (clear t5; refine at_getBr (by rfl) _ (by rfl) g7 (by rfl) (.slice va S.length vc) fk c7x ?_)
              | (clear t6; refine at_putBr (by rfl) _ _ (by rfl) g4 (by rfl) (.slice va S.length vc) rfl fk (by rfl) _ c4x rfl ?_; intro w10 r10 s10))
            exact bodyPost_ret (retCt srtBr rfl rfl rfl r10 rfl) rfl (fin2 w10 r10 s10)
end Go.Proofs.YtdfifneikmlmoaaGreat
namespace Go.Proofs.YtdfifneikmlmoaaGreat
open Go.ChangeShapes Go.WideShapes Go.ChangeAt Go.RowKit
set_option linter.unusedVariables false
set_option linter.unusedSimpArgs false

theorem Rh.stp {w w' : World} {h : Nat} {Z : GZ} {R F : Nat → Prop} (H : Rh w h Z R) (k : Stp F w w') (hg : ¬ F h) (hR : ∀ x, R x → ¬ F x) : Rh w' h Z R := by
  obtain ⟨a, c, L, H⟩ := H
  exact ⟨a, c, L, H.step k hg hR⟩
/-- On the way over the sectors. -/
structure RaI (w wr : World) (N g : Nat) (R : Nat → Prop) (Z : GZ) (L : List Int) (k : Nat) (v : Value) : Prop where
  gh : ∃ R', Rh wr g (Z.cr (L.take k)) R' ∧ (∀ r, v.ownBlock = some r → ¬ R' r) ∧ ∀ x, R' x → R x ∨ w.heap.size ≤ x
  ow : OwV wr v (Z.crO (L.take k))
  nw : New N v
  st : Stp (fun x => x = g) w wr
  few : (Z.crO (L.take k)).length ≤ k * 2000
set_option maxRecDepth 100000 in
set_option maxHeartbeats 4000000 in
theorem rcarry_any {w : World} {g : Nat} {Z : GZ} {R : Nat → Prop} (H : Rh w g Z R) {s : Sv} {L : List Int} (hs : InsS w s L) (he : InE (fun x => x ≠ g) s) (hL : L.length ≤ 400) (b : Bool) :
    Calls Tryz.prog 17 #[.pointer (some ⟨g, 0, none⟩), .agg (btc (.slice s.a s.n s.c) b).toArray] w fun e w' => ∃ v, e = .returned v ∧ OwV w' v (Z.crO L) ∧ New w.heap.size v ∧ (∃ R', Rh w' g (Z.car L) R' ∧ ∀ x, R' x → R x ∨ w.heap.size ≤ x) ∧ Stp (fun x => x = g) w w' := by
  have hl := hs.i.len
  have hok : Z.ok 2000 := by obtain ⟨_, _, _, H⟩ := H; exact H.ok
  have hglt : g < w.heap.size := by obtain ⟨_, _, _, H⟩ := H; exact H.cc.lt
  have hRlt : ∀ x, R x → x < w.heap.size := by obtain ⟨_, _, _, H⟩ := H; exact H.lt
  obtain ⟨na, nn, nc⟩ := s
  have t1 : Hid True := trivial
  go_enter Tryz.func17, Tryz.ntmps17
  go_wp2_with (first
    | (clear t1; refine at_boxC 38 (by rfl) _ (by rfl) (btc (.slice na nn nc) b) (by rfl) (btc_one rfl b) ?_; intro g3 w3 a3 a4 r3 b3))
  have q0 : OwV (w3.alloc (.cells #[] 3)) (.slice (some ⟨w3.heap.size, 0, none⟩) 0 0) [] := World.ownsRow_made w3 #[] 0 (Nat.zero_le _) (Nat.zero_le _) rfl
  have b30 : Below w3.heap.size w3 (w3.alloc (.cells #[] 3)) := (Below.refl _ w3).alloc (Nat.le_refl _) _
  have b0 := bnext b3 b30 (Nat.le_refl _)
  have r30 := r3.later b30
  have zw3 := b3.size
  have hz34 := b30.size
  have ob0 : ∀ r, (Value.slice (some ⟨w3.heap.size, 0, none⟩) 0 0).ownBlock = some r → w3.heap.size = r := fun r e => by simpa [Value.ownBlock] using e
  have start : RaI w (w3.alloc (.cells #[] 3)) w3.heap.size g R Z L 0 (.slice (some ⟨w3.heap.size, 0, none⟩) 0 0) := ⟨⟨R, by obtain ⟨_, _, _, H⟩ := H; exact ⟨_, _, _, H.later b0⟩, fun r e hr => by have := ob0 r e; have := hRlt r hr; omega, fun x hx => .inl hx⟩, q0, fun r e => by have := ob0 r e; omega, Stp.of_below b0 _, Nat.zero_le _⟩
  have st3 : Stp (fun x => x = g) w (w3.alloc (.cells #[] 3)) := Stp.of_below b0 _
  have hg3 : g3 ≠ g := by omega
  generalize hv0 : Value.slice (some ⟨w3.heap.size, 0, none⟩) 0 0 = v0 at *
  generalize w3.alloc (.cells #[] 3) = w4 at *
  clear q0 b30 b0 r3 H ob0 hv0 b3
  go_loopw [5, 6] (fun v u wr => ∃ k : Nat, k ≤ L.length ∧ u = .int .i64 (k : Int) ∧ RaI w wr w3.heap.size g R Z L k v ∧ Cs wr g3 (btc (.slice na nn nc) b) ∧ w3.heap.size ≤ wr.heap.size) (fun _ u _ => L.length - (intOf u).toNat)
  case atStart => exact ⟨0, Nat.zero_le _, rfl, start, r30, hz34⟩
  case round =>
    clear start r30
    obtain ⟨k, hk, rfl, I, c3, hzw⟩ := hrel
    have I4 : Hid (w3.heap.size ≤ wr.heap.size) := hzw
    have x0 := c3.cell 0 _ rfl
    obtain ⟨R', hRh, hvR, hRw⟩ := I.gh
    obtain ⟨ra, rc, rL, H2⟩ := hRh
    have hzr := I.st.size
    by_cases hlt : k < L.length
    · have h2 := hs.step I.st he (fun x hx e => hx e)
      obtain ⟨bb, o, e, hcs⟩ := h2.i.cell (by simp only at hl ⊢; omega)
      have ck := hcs k (by simp only at hl ⊢; omega)
      simp only at e
      subst e
      have hT : L.take (k + 1) = L.take k ++ [L.getD k 0] := by
        rw [List.take_add_one, List.getElem?_eq_getElem hlt, List.getD_eq_getElem?_getD, List.getElem?_eq_getElem hlt]; rfl
      have e1 : Hid (Z.cr (L.take (k + 1)) = (Z.cr (L.take k)).wr (rdy (Z.cr (L.take k)).l (L.getD k 0))) := by show _ = _; rw [hT, cr_snoc]
      have e2 : Hid (Z.crO (L.take (k + 1)) = Z.crO (L.take k) ++ rdy (Z.cr (L.take k)).l (L.getD k 0)) := by show _ = _; rw [hT, crO_snoc]
      have hfw := I.few
      have how := I.ow
      have hlr := rdy_len H2.ok (L.getD k 0)
      have hwr := rdy_wfi H2.ok (by omega) (L.getD k 0)
      have hst := I.st
      have hnw := I.nw
      have hRd := rready_any H2 (L.getD k 0)
      have hRh2 : Rh wr g (Z.cr (L.take k)) R' := ⟨ra, rc, rL, H2⟩
      generalize hO : Z.crO (L.take k) = O at *
      generalize hZ : Z.cr (L.take k) = Z2 at *
      generalize L.getD k 0 = y at *
      clear hcs h2 hT hO hZ I
      generalize hR : rdy Z2.l y = RD at *
      have hbig : O.length + RD.length ≤ 1000000 := by
        have : k * 2000 ≤ 400 * 2000 := Nat.mul_le_mul_right _ (by omega)
        omega
      have a3 : (k : Int) < (nn : Int) := by omega
      have hkb : (k : Int) ≤ 400 := by omega
      have hbig' : Hid (O.length + RD.length ≤ 1000000) := hbig
      have hR1 : Hid (RD.length ≤ 100000) := by show _ ≤ _; omega
      have hfw' : Hid (O.length + RD.length ≤ (k + 1) * 2000) := by show _ ≤ _; omega
      clear hbig hfw hlr hR H2
      go_wp2_with (first
        | (go_at_call 35; refine hRd.mono ?_; rintro e w7 ⟨v7, rfl, o7, n7, b7⟩; clear hRd
           obtain ⟨⟨sa, sn, sc⟩, e4, e5, i7, j7⟩ := o7.ins hwr n7
           subst e4
           have hWr := rwrite_any (Rh.stp hRh2 (Stp.of_below b7 (fun _ => False)) id (fun _ _ => id)) i7 (j7.mono (fun x hx e => by have := hx.1; omega)) hR1.out
           have e5' : Hid (sn = RD.length) := e5
           clear e5)
        | (go_at_call 27; refine hWr.mono ?_; rintro e w8 ⟨rfl, g8, s8⟩; clear hWr
           have i8 := i7.step s8 (j7.mono (fun x hx => hx.1)) (fun x hx e => by omega)
           have ow8 := (how.later b7).step s8 (fun r hr e => by have := hnw r hr; omega))
        | (at_builtin; refine at_appR elI w3.heap.size rfl _ _ (by rfl) (by rfl) ow8 hnw sa sc (RD.map (Value.int .i64)) (m := sn) (by rfl) (by rw [List.length_map, e5'.out, Nat.mul_one]) (fun e => ⟨(i8.zero e).1, (i8.zero e).2.1⟩) (fun ad e j u hu => i8.cells ad e j u hu) (by intro u hu; obtain ⟨x, _, rfl⟩ := List.mem_map.1 hu; rfl) (by rw [e5'.out]; exact hbig'.out) (by have := b7.size; have := s8.size; have := I4.out; omega) ?_
           intro v9 w9 hA))
      obtain ⟨A1, A2, A3, A4, -⟩ := hA
      have z7 := b7.size
      have z8 := s8.size
      have hvlt : ∀ r, u5.ownBlock = some r → r < wr.heap.size := fun r hr => how.lt hr
      have s9 : Stp (fun x => x = g) w w9 := ((hst.trans (Stp.of_below b7 _)).trans s8).next A4 (fun x e => .inr (by have := hnw x e; omega))
      have g9 : Rh w9 g (Z2.wr RD) (fun x => (R' x ∨ Made w7 w8 x) ∧ x ≠ g) := Rh.stp g8 A4 (fun e => by have := hnw g e; omega) (fun x hx e => by
        rcases hx.1 with q | q
        · exact hvR x e q
        · have := hvlt x e; have := q.1; omega)
      have nR : ∀ r, v9.ownBlock = some r → ¬ ((R' r ∨ Made w7 w8 r) ∧ r ≠ g) := fun r hr hx => by
        rcases A3 with e | ⟨e, _⟩
        · rw [e] at hr
          rcases hx.1 with q | q
          · exact hvR r hr q
          · have := hvlt r hr; have := q.1; omega
        · rw [e] at hr
          injection hr with hr
          obtain ⟨_, _, _, H8⟩ := g8
          have := H8.lt r hx; omega
      have J : RaI w w9 w3.heap.size g R Z L (k + 1) v9 := ⟨⟨_, by rw [e1.out]; exact g9, nR, fun x hx => by rcases hx.1 with q | q; exact hRw x q; exact .inr (by have := q.1; omega)⟩, by rw [e2.out]; unfold OwV; rw [List.length_append, List.map_append, ← e5'.out]; exact A1, A2, s9, by rw [e2.out, List.length_append]; exact hfw'.out⟩
      have c9 := (((c3.later b7).step s8 hg3)).step A4 (fun e => by have := hnw g3 e; omega)
      clear x0
      go_wp2_with fail
      go_roundw
      case rel => exact ⟨k + 1, by omega, by go_num, J, c9, by have := A4.size; omega⟩
      case measure => simp [intOf]; omega
    · have hk' : k = L.length := by omega
      subst hk'
      have hRh2 : Rh wr g (Z.cr (L.take L.length)) R' := ⟨ra, rc, rL, H2⟩
      have hS := rsettleAll_any hRh2
      have how := I.ow
      have hst := I.st
      have hnw := I.nw
      rw [List.take_length] at hS how
      have hcar : Hid (Z.car L = (Z.cr L).stl fun _ => true) := by show _ = _; rfl
      generalize (Z.cr L).stl (fun _ => true) = Z3 at *
      generalize (Z.cr L).stlN (fun _ => true) = n3 at *
      clear I H2 hRh2
      have a3 : ¬ (L.length : Int) < (nn : Int) := by omega
      go_wp2_with (first
        | (go_at_call 43; refine hS.mono ?_; rintro e w5 ⟨rfl, g5, s5⟩; clear hS))
      go_returns
      exact ⟨_, rfl, how.step s5 (fun r hr e => by have := hnw r hr; omega), fun r hr => by have := hnw r hr; omega, ⟨_, by rw [hcar.out]; exact g5, fun x hx => by rcases hx with q | q; exact hRw x q; exact .inr (by have := q.1; omega)⟩, hst.trans s5⟩
end Go.Proofs.YtdfifneikmlmoaaGreat
namespace Go.Proofs.YtdfifneikmlmoaaGreat
open Go.ChangeShapes Go.WideShapes Go.ChangeAt Go.RowKit
set_option linter.unusedVariables false
set_option linter.unusedSimpArgs false

theorem btR : BtT 38 32 := ⟨srtBr, ⟨by kernel_rfl, ⟨.agg (btc (.slice none 0 0) false).toArray, 32, by kernel_rfl, rfl, by omega⟩, by omega⟩, by kernel_rfl, ⟨_, Tryz.underlying38, rfl⟩, by kernel_rfl⟩
theorem bslice_b0 (w : World) : (Instr.buildSlice 32 0 #[]).run Tryz.prog w = .ok (.slice (some ⟨w.heap.size, 0, none⟩) 0 0) (w.alloc (.cells #[] 38)) := by kernel_rfl
theorem at_bs0B {ops : Array Oper} {rest : List Oper} {o : Oper} {a : Act} {w : World} {Q : Exit → Act → World → Prop} (ho : o.op = .buildSlice 32 0 #[]) (hw : Region.wanted o (yielded ops a.tmps) = true)
    (h : wpList Tryz.prog ops Q rest (a.put o.dst (.slice (some ⟨w.heap.size, 0, none⟩) 0 0)) (w.alloc (.cells #[] 38))) : wpList Tryz.prog ops Q (o :: rest) a w := by
  refine op_val hw _ _ ?_ h
  simp [execOp, ho, bslice_b0]
/-- On the way. -/
structure RbI (w w1 wr : World) (hc : Nat) (Z : GZ) (is : List Int) (k : Nat) (vl : Value) (L : List Be) : Prop where
  rh : ∃ R', Rh wr hc (Z.aft is k) R' ∧ ∀ x, R' x → vl.ownBlock ≠ some x
  bt : BtI wr 38 w1.heap.size vl L
  eL : L.map Be.bt = btL is Z k
  b : Below w.heap.size w wr
  sz : w1.heap.size ≤ wr.heap.size
theorem ends_last {Z : GZ} {t : Int} (h : Z.ok t) {is : List Int} {n : Nat} (hn : n ≤ (nd is Z.l).length) : (n : Int) ≤ Z.last := by
  have h1 := nd_len is Z.l
  have h2 := rising_len Z.l 0 Z.last h.srt (fun p hp => by have := h.rng p hp; omega) h.l0
  omega
set_option maxRecDepth 100000 in
set_option maxHeartbeats 4000000 in
theorem rbatches_any {w : World} {h : Nat} {Z : GZ} {R : Nat → Prop} (H : Rh w h Z R) {s : Sv} {is : List Int} (hs : InsS w s is) (hl : is.length ≤ 1000) {n : Nat} (hn : Ends is Z n) (hn1 : n ≤ 100) (hnl : (n : Int) ≤ Z.last) (hzl : Z.l.length ≤ 100) :
    Calls Tryz.prog 8 #[.pointer (some ⟨h, 0, none⟩), .slice s.a s.n s.c] w fun e w' => ∃ v, e = .returned v ∧ BtS w' 38 w.heap.size v (btL is Z n) ∧ Below w.heap.size w w' := by
  obtain ⟨ra, rc, rL, HR⟩ := H
  have hok := HR.ok
  have hlast : Hid (∀ u, Below w.heap.size w u → u.cell? ⟨h, 0, none⟩ = some (.int .i64 Z.last)) := fun u hu => (HR.later hu).cells.1
  have hCp := rcopy_any HR
  have hla : Z.last ≤ 2000 := hok.lt
  have hNx' : Hid (∀ (u : World) (gc : Nat) (R : Nat → Prop) (k : Nat), Rh u gc (Z.aft is k) R → Below w.heap.size w u → Calls Tryz.prog 10 #[.pointer (some ⟨gc, 0, none⟩), .slice s.a s.n s.c] u fun e w' => ∃ v, e = .returned (.tuple #[.agg (btc v (frS (bsS is (Z.aft is k).l) (Z.aft is k).l)).toArray, .bool (mor is (Z.aft is k).l)]) ∧ OwV w' v (bsS is (Z.aft is k).l) ∧ New u.heap.size v ∧ Below u.heap.size u w') := fun u gc R k hg hb => by
    obtain ⟨_, _, _, hg⟩ := hg
    exact rnext_any hg (hs.later hb) hl
  clear HR
  have t1 : Hid True := trivial
  go_enter Tryz.func8, Tryz.ntmps8
  go_wp2_with (first
    | (go_at_call 29; refine hCp.mono ?_; rintro e w1 ⟨hc, rfl, hR1, hcN, b1⟩; clear hCp)
    | (clear t1; refine at_bs0B (by rfl) (by rfl) ?_))
  have b10 : Below w1.heap.size w1 (w1.alloc (.cells #[] 38)) := (Below.refl _ w1).alloc (Nat.le_refl _) _
  have hclt : hc < w1.heap.size := by obtain ⟨_, _, _, _, HR⟩ := hR1; exact HR.cc.lt
  have hw1 : w.heap.size ≤ w1.heap.size := b1.size
  have start : RbI w w1 (w1.alloc (.cells #[] 38)) hc Z is 0 (.slice (some ⟨w1.heap.size, 0, none⟩) 0 0) [] := ⟨by obtain ⟨R', hR1⟩ := hR1; exact ⟨R', Rh.stp hR1 (Stp.of_below b10 (fun _ => False)) id (fun _ _ => id), fun x hx e => by
      have h1 : w1.heap.size = x := by simpa [Value.ownBlock] using e
      obtain ⟨_, _, _, HR⟩ := hR1
      have := HR.lt x hx; omega⟩, ⟨World.ownsRow_made w1 #[] 0 (Nat.zero_le _) (Nat.zero_le _) rfl, fun r e => by
      have : w1.heap.size = r := by simpa [Value.ownBlock] using e
      omega, fun t ht => by cases ht⟩, rfl, bnext b1 b10 (Nat.le_refl _), b10.size⟩
  generalize hv0 : Value.slice (some ⟨w1.heap.size, 0, none⟩) 0 0 = v0 at *
  generalize w1.alloc (.cells #[] 38) = w2 at *
  clear hv0 b10 hR1
  go_loopw [6, 7] (fun vl u wr => ∃ k L, k ≤ n ∧ u = .int .i64 (k : Int) ∧ RbI w w1 wr hc Z is k vl L) (fun _ u _ => n + 1 - (intOf u).toNat)
  case atStart => exact ⟨0, [], Nat.zero_le _, rfl, start⟩
  case round =>
    clear start
    obtain ⟨k, L, hk, rfl, I⟩ := hrel
    have hLk : L.length = k := by have := congrArg List.length I.eL; rw [List.length_map, btL_len] at this; exact this
    obtain ⟨la, lc, hlv, -⟩ := I.bt.shape
    subst hlv
    have zl := hlast.out _ I.b
    have a9 : (k : Int) ≤ Z.last := by omega
    have hokk := aft_ok hok is k
    have hwfb := bsS_wfi hokk is
    obtain ⟨R', hRh, hRv⟩ := I.rh
    have hNx := hNx'.out wr hc R' k hRh I.b
    have hmk := hn.more hk
    have t2 : Hid True := trivial
    have t3 : Hid True := trivial
    have hkb : (k : Int) ≤ 100 := by omega
    by_cases hlt : k < n
    · have hm1 : mor is (Z.aft is k).l = true := by rw [hmk]; simpa using hlt
      rw [hm1] at hNx
      have hlb2 : (bsS is (Z.aft is k).l).length ≤ 400 := by
        have h3 := aft_len hok is k
        have h4 := bsS_few hokk is
        omega
      have e1 : Hid (Z.aft is (k + 1) = (Z.aft is k).car (bsS is (Z.aft is k).l)) := by show _ = _; rfl
      have e2 : Hid (btL is Z (k + 1) = btL is Z k ++ [⟨bsS is (Z.aft is k).l, frS (bsS is (Z.aft is k).l) (Z.aft is k).l⟩]) := btL_succ is Z k
      have hbt := I.bt
      have heL := I.eL
      have hb := I.b
      have hsz := I.sz
      have hbL' : Hid (L.length + 1 ≤ 1000000) := by show _ ≤ _; omega
      generalize bsS is (Z.aft is k).l = S at *
      generalize hZk : Z.aft is k = Zk at *
      generalize frS S Zk.l = fr at *
      clear I hmk hm1 hLk hokk hZk
      have t4 : Hid True := trivial
      have t5 : Hid True := trivial
      have t6 : Hid True := trivial
      go_wp2_with (first
        | (go_at_call 10; refine hNx.mono ?_; rintro e w3 ⟨v3, rfl, o3, n3, b3⟩; clear hNx
           obtain ⟨⟨va, vn, vc⟩, e4, -, i3, j3⟩ := o3.ins hwfb n3
           have e4v : v3 = .slice va vn vc := e4
           clear e4
           subst e4v)
        | (clear t2; refine at_newBr (by rfl) (by rfl) ?_; intro g4 w4 a4 a4' r4 b4)
        | (clear t3; refine at_putBr (by rfl) _ _ (by rfl) g4 (by rfl) (.slice va vn vc) rfl fr (by rfl) _ r4 rfl ?_; intro w5 r5 s5
           have B35 : Below w3.heap.size w3 w5 := ((Stp.of_below b4 (fun _ => False)).next s5 (fun x e => .inr (by omega))).below (Nat.le_refl _) (fun x e => e.elim)
           have Br5 := bnext b3 B35 (Nat.le_refl _)
           have o5 := o3.later B35
           have i5 := i3.later B35
           have bt5 := hbt.later Br5
           have rh5 := Rh.stp hRh (Stp.of_below Br5 (fun _ => False)) id (fun _ _ => id))
        | (clear t4; refine at_getBr (by rfl) _ (by rfl) g4 (by rfl) (.slice va vn vc) fr r5 ?_)
        | (clear t5; refine at_bsB btR _ (by rfl) (by rfl) ⟨⟨va, vn, vc⟩, S, fr⟩ (by rfl) ?_
           have b6 : Below w5.heap.size w5 (w5.alloc (.cells (Be.cs ⟨⟨va, vn, vc⟩, S, fr⟩).toArray 38)) := (Below.refl _ w5).alloc (Nat.le_refl _) _)
        | (at_builtin; refine at_appR btR.el w1.heap.size rfl _ _ (by rfl) (by rfl) (bt5.later b6).ow bt5.nw (some ⟨w5.heap.size, 0, none⟩) 1 (Be.cs ⟨⟨va, vn, vc⟩, S, fr⟩) (by rfl) rfl (fun e => by cases e) (fun ad e => by injection e with e; subst e; exact cell_newB _ _ _) (Be.cs_one _) hbL'.out (Nat.le_trans hsz (Nat.le_trans Br5.size b6.size)) ?_
           intro v7 w7 hA
           have bt7 := (bt5.later b6).app (t := ⟨⟨va, vn, vc⟩, S, fr⟩) (by decide) hA (o5.later b6) (fun r hr => by have := n3 r hr; omega) hwfb
           have s7 : Stp (fun x => (Value.slice la L.length lc).ownBlock = some x) w5 w7 := (Stp.of_below b6 _).trans hA.2.2.2.1
           have hrow : ∀ r, (Value.slice la L.length lc).ownBlock = some r → r < wr.heap.size ∧ w1.heap.size ≤ r := fun r hr => ⟨(hbt.ow.lt r hr).2, hbt.nw r hr⟩
           have r7 := r5.step s7 (fun e => by have := (hrow g4 e).1; have := b3.size; omega)
           have i7 := i5.step s7 j3 (fun x hx e => by have := (hrow x e).1; have := hx.1; omega)
           have rh7 : Rh w7 hc Zk R' := Rh.stp rh5 s7 (fun e => by have := (hrow hc e).2; omega) (fun x hx e => hRv x hx e)
           have hRlt : ∀ x, R' x → x < wr.heap.size := by obtain ⟨_, _, _, HR⟩ := hRh; exact HR.lt
           have hv7 : ∀ x, R' x → v7.ownBlock ≠ some x := fun x hx e => by
             rcases hA.2.2.1 with q | ⟨q, -⟩
             · rw [q] at e; exact hRv x hx e
             · rw [q] at e; injection e with e; have := hRlt x hx; have := Br5.size; have := b6.size; omega
           have hCa := rcarry_any rh7 i7 (j3.mono (fun x hx e => by have := hx.1; omega)) hlb2 fr
           clear hA)
        | (clear t6; refine at_getBr (by rfl) _ (by rfl) g4 (by rfl) (.slice va vn vc) fr r7 ?_)
        | (go_at_call 17; refine hCa.mono ?_; rintro e w8 ⟨v8, rfl, -, -, ⟨R8, h8, hR8⟩, s8⟩; clear hCa))
      have z7 := s7.size
      have zr5 := Br5.size
      have z8 := s8.size
      have B7 : Below w.heap.size w w7 := (bnext hb Br5 (Nat.le_refl _)).trans (s7.below (bnext hb Br5 (Nat.le_refl _)).size (fun x e => by have := (hrow x e).2; omega))
      have J : RbI w w1 w8 hc Z is (k + 1) v7 (L ++ [⟨⟨va, vn, vc⟩, S, fr⟩]) := by
        refine ⟨⟨R8, by rw [e1.out]; exact h8, fun x hx e => ?_⟩, bt7.step s8 (fun x e => .inl (by omega)), by rw [List.map_append, heL, e2.out]; rfl, B7.trans (s8.below B7.size (fun x e => by omega)), by omega⟩
        rcases hR8 x hx with q | q
        · exact hv7 x q e
        · have := (bt7.ow.lt x e).2; omega
      obtain ⟨xa, xc, hx7, -⟩ := bt7.shape
      subst hx7
      clear zl
      go_wp2_with fail
      go_roundw
      case rel => exact ⟨k + 1, _, by omega, by go_num, J⟩
      case measure => simp [intOf]; omega
    · have hkn : k = n := by omega
      subst hkn
      have hm1 : mor is (Z.aft is k).l = false := by rw [hmk]; simp
      rw [hm1] at hNx
      have hbt := I.bt
      have heL := I.eL
      have hb := I.b
      generalize frS (bsS is (Z.aft is k).l) (Z.aft is k).l = fr at *
      generalize bsS is (Z.aft is k).l = S at *
      clear I hmk hm1 hLk
      go_wp2_with (first
        | (go_at_call 10; refine hNx.mono ?_; rintro e w3 ⟨v3, rfl, o3, n3, b3⟩; clear hNx
           have v3one := o3.one)
        | (clear t2; refine at_newBr (by rfl) (by rfl) ?_; intro g4 w4 a4 a4' r4 b4)
        | (clear t3; refine at_putBr (by rfl) _ _ (by rfl) g4 (by rfl) v3 v3one fr (by rfl) _ r4 rfl ?_; intro w5 r5 s5))
      have B35 : Below w3.heap.size w3 w5 := ((Stp.of_below b4 (fun _ => False)).next s5 (fun x e => .inr (by omega))).below (Nat.le_refl _) (fun x e => e.elim)
      have Br5 := bnext b3 B35 (Nat.le_refl _)
      go_returns
      exact ⟨_, rfl, ⟨L, heL, (hbt.later Br5).mono hw1⟩, bnext hb Br5 (Nat.le_refl _)⟩
end Go.Proofs.YtdfifneikmlmoaaGreat
namespace Go.Proofs.YtdfifneikmlmoaaGreat
open Go.ChangeShapes Go.WideShapes Go.ChangeAt Go.RowKit
set_option linter.unusedVariables false
set_option linter.unusedSimpArgs false

/-- One of the batches, as it lies. -/
theorem BtS.at {w : World} {T : TypeId} {N : Nat} {a : Option Addr} {n c : Nat} {l : List Bt} (h : BtS w T N (.slice a n c) l) (k : Nat) (t : Bt) (ht : l[k]? = some t) : ∃ (b : Nat) (s : Sv), a = some ⟨b, 0, none⟩ ∧ w.cell? ⟨b, k * 2, none⟩ = some (.slice s.a s.n s.c) ∧ w.cell? ⟨b, k * 2 + 1, none⟩ = some (.bool t.f) ∧ InsS w s t.s ∧ InE (fun x => N ≤ x ∧ x < w.heap.size) s := by
  obtain ⟨L, e, I⟩ := h
  subst e
  rw [List.getElem?_map] at ht
  cases hL : L[k]? with
  | none => rw [hL] at ht; cases ht
  | some u =>
    rw [hL] at ht
    injection ht with ht
    subst ht
    obtain ⟨hk, hu⟩ := List.getElem?_eq_some_iff.1 hL
    obtain ⟨b, e1, r⟩ := I.el' k hk
    rw [hu] at r
    have h0 := I.el u (List.mem_of_getElem? hL)
    obtain ⟨s, k1, -, k3, k4⟩ := h0.1.ins h0.2.2 h0.2.1
    refine ⟨b, s, e1, ?_, r 1 _ rfl, k3, k4⟩
    have := r 0 _ rfl
    rw [Nat.add_zero] at this
    rw [this]; exact congrArg some k1
set_option maxRecDepth 100000 in
set_option maxHeartbeats 4000000 in
theorem same16_any {w : World} {N M : Nat} {u v : Value} {l : List Bt} (hu : BtS w 35 N u l) (hv : BtS w 38 M v l) (hl : l.length ≤ 1000) (hll : ∀ t ∈ l, t.s.length ≤ 400) :
    Calls Tryz.prog 11 #[u, v] w fun e w' => e = .returned (.bool true) ∧ Below w.heap.size w w' := by
  obtain ⟨ua, uc, rfl⟩ := hu.shape
  obtain ⟨va, vc, rfl⟩ := hv.shape
  go_enter Tryz.func11, Tryz.ntmps11
  go_wp2_with fail
  go_loopw [5] (fun x wr => ∃ k : Nat, k ≤ l.length ∧ x = .int .i64 (k : Int) ∧ Below w.heap.size w wr) (fun x _ => l.length - (intOf x).toNat)
  case atStart => exact ⟨0, Nat.zero_le _, rfl, Below.refl _ _⟩
  case round =>
    obtain ⟨k, hk, rfl, hb⟩ := hrel
    by_cases hlt : k < l.length
    · have a9 : (k : Int) < (l.length : Int) := by omega
      have a8 : (0 : Int) ≤ (k : Int) := by omega
      have a7 : (k : Int) ≤ 1000 := by omega
      obtain ⟨t, ht⟩ : ∃ t, l[k]? = some t := ⟨_, List.getElem?_eq_getElem hlt⟩
      obtain ⟨ub, us, rfl, cu0, cu1, iu, -⟩ := (hu.later hb).at k t ht
      obtain ⟨vb, vs, rfl, cv0, cv1, iv, -⟩ := (hv.later hb).at k t ht
      have hSm := fun (x : World) (hx : Below wr.heap.size wr x) => same_any (iu.later hx) (iv.later hx) (by have := hll t (List.mem_of_getElem? ht); omega)
      clear ht
      generalize t.f = tf at *
      go_wp2_with fail
      refine wp_region_held_drew (S := fun u => Below wr.heap.size wr u) (by kernel_rfl) (Below.refl _ _).drew (fun hHeld => ?_)
      refine wpAnyH_take (i := 0) (oi := { dst := some 17, op := Op.move (Operand.tmp 0), type := 29, pos := _, after := #[], guard := none }) (v := .slice (some ⟨ub, 0, none⟩) l.length uc) rfl (by kernel_rfl) (by kernel_rfl) (by kernel_rfl) (fun _ _ _ h => h) (Or.inl ⟨by rfl, ?_⟩) hHeld ?_
      · intro u hu
        go_simp
      try simp only [Act.put, List.setIfInBounds_toArray, List.set_cons_zero, List.set_cons_succ]
      refine wpAnyH_take (i := 1) (oi := { dst := some 18, op := Op.move (Operand.tmp 5), type := 3, pos := _, after := #[], guard := none }) (v := .int .i64 (k : Int)) rfl (by kernel_rfl) (by kernel_rfl) (by kernel_rfl) (fun _ _ _ h => h) (Or.inl ⟨by rfl, ?_⟩) hHeld ?_
      · intro u hu
        go_simp
      try simp only [Act.put, List.setIfInBounds_toArray, List.set_cons_zero, List.set_cons_succ]
      refine wpAnyH_take (i := 2) (oi := { dst := some 19, op := Op.indexAddr 29 (Operand.tmp 17) (Operand.tmp 18), type := 0, pos := _, after := #[{ on := 0, ground := Ground.data }, { on := 1, ground := Ground.data }], guard := none }) (v := .pointer (some ⟨ub, k * 2, none⟩)) rfl (by kernel_rfl) (by kernel_rfl) (by kernel_rfl) (fun _ _ _ h => h) (Or.inl ⟨by rfl, ?_⟩) hHeld ?_
      · intro u hu
        go_simp
      try simp only [Act.put, List.setIfInBounds_toArray, List.set_cons_zero, List.set_cons_succ]
      refine wpAnyH_take (i := 3) (oi := { dst := some 20, op := Op.fieldAddr 35 (Operand.tmp 19) 0, type := 0, pos := _, after := #[{ on := 2, ground := Ground.data }], guard := none }) (v := .pointer (some ⟨ub, k * 2, none⟩)) rfl (by kernel_rfl) (by kernel_rfl) (by kernel_rfl) (fun _ _ _ h => h) (Or.inl ⟨by rfl, ?_⟩) hHeld ?_
      · intro u hu
        go_simp
      try simp only [Act.put, List.setIfInBounds_toArray, List.set_cons_zero, List.set_cons_succ]
      refine wpAnyH_take (i := 4) (oi := { dst := some 21, op := Op.load 23 (Operand.tmp 20), type := 23, pos := _, after := #[{ on := 3, ground := Ground.data }], guard := none }) (v := .slice us.a us.n us.c) rfl (by kernel_rfl) (by kernel_rfl) (by kernel_rfl) (fun _ _ _ h => h) (Or.inl ⟨by rfl, ?_⟩) hHeld ?_
      · intro u hu
        have x1 := (Stp.of_below hu (fun _ => False)).cell cu0 id; go_simp
      try simp only [Act.put, List.setIfInBounds_toArray, List.set_cons_zero, List.set_cons_succ]
      refine wpAnyH_take (i := 5) (oi := { dst := some 22, op := Op.move (Operand.tmp 1), type := 32, pos := _, after := #[], guard := none }) (v := .slice (some ⟨vb, 0, none⟩) l.length vc) rfl (by kernel_rfl) (by kernel_rfl) (by kernel_rfl) (fun _ _ _ h => h) (Or.inl ⟨by rfl, ?_⟩) hHeld ?_
      · intro u hu
        go_simp
      try simp only [Act.put, List.setIfInBounds_toArray, List.set_cons_zero, List.set_cons_succ]
      refine wpAnyH_take (i := 6) (oi := { dst := some 23, op := Op.move (Operand.tmp 5), type := 3, pos := _, after := #[], guard := none }) (v := .int .i64 (k : Int)) rfl (by kernel_rfl) (by kernel_rfl) (by kernel_rfl) (fun _ _ _ h => h) (Or.inl ⟨by rfl, ?_⟩) hHeld ?_
      · intro u hu
        go_simp
      try simp only [Act.put, List.setIfInBounds_toArray, List.set_cons_zero, List.set_cons_succ]
      refine wpAnyH_take (i := 7) (oi := { dst := some 24, op := Op.indexAddr 32 (Operand.tmp 22) (Operand.tmp 23), type := 0, pos := _, after := #[{ on := 5, ground := Ground.data }, { on := 6, ground := Ground.data }], guard := none }) (v := .pointer (some ⟨vb, k * 2, none⟩)) rfl (by kernel_rfl) (by kernel_rfl) (by kernel_rfl) (fun _ _ _ h => h) (Or.inl ⟨by rfl, ?_⟩) hHeld ?_
      · intro u hu
        go_simp
      try simp only [Act.put, List.setIfInBounds_toArray, List.set_cons_zero, List.set_cons_succ]
      refine wpAnyH_take (i := 8) (oi := { dst := some 25, op := Op.fieldAddr 38 (Operand.tmp 24) 0, type := 0, pos := _, after := #[{ on := 7, ground := Ground.data }], guard := none }) (v := .pointer (some ⟨vb, k * 2, none⟩)) rfl (by kernel_rfl) (by kernel_rfl) (by kernel_rfl) (fun _ _ _ h => h) (Or.inl ⟨by rfl, ?_⟩) hHeld ?_
      · intro u hu
        go_simp
      try simp only [Act.put, List.setIfInBounds_toArray, List.set_cons_zero, List.set_cons_succ]
      refine wpAnyH_take (i := 9) (oi := { dst := some 26, op := Op.load 23 (Operand.tmp 25), type := 23, pos := _, after := #[{ on := 8, ground := Ground.data }], guard := none }) (v := .slice vs.a vs.n vs.c) rfl (by kernel_rfl) (by kernel_rfl) (by kernel_rfl) (fun _ _ _ h => h) (Or.inl ⟨by rfl, ?_⟩) hHeld ?_
      · intro u hu
        have x1 := (Stp.of_below hu (fun _ => False)).cell cv0 id; go_simp
      try simp only [Act.put, List.setIfInBounds_toArray, List.set_cons_zero, List.set_cons_succ]
      refine wpAnyH_ready (rs := [10]) (by kernel_rfl) (by simp) ?_
      refine (AllReadyH.cons (o := { dst := some 27, op := Op.call { callee := Callee.value (Operand.func 12), args := #[Operand.tmp 21, Operand.tmp 26], argTypes := #[23, 23] }, type := 4, pos := _, after := #[{ on := 4, ground := Ground.data }, { on := 9, ground := Ground.data }], guard := none }) rfl (fun K hK => ?_) AllReadyH.nil)
      go_simp
      refine (hSm _ hHeld).mono ?_
      rintro e w9 ⟨rfl, b9⟩
      try go_wp2_with fail
      refine hK.out _ _ (bnext hHeld b9 (Nat.le_refl _)) (fun hHeld => ?_)
      clear hK K
      try simp only [Act.put, List.setIfInBounds_toArray, List.set_cons_zero, List.set_cons_succ]
      refine wpAnyH_take (i := 11) (oi := { dst := some 28, op := Op.unOp UnOp.not 4 (Operand.tmp 27), type := 4, pos := _, after := #[{ on := 10, ground := Ground.data }], guard := none }) (v := .bool false) rfl (by kernel_rfl) (by kernel_rfl) (by kernel_rfl) (fun _ _ _ h => h) (Or.inl ⟨by rfl, ?_⟩) hHeld ?_
      · intro u hu
        go_simp
      try simp only [Act.put, List.setIfInBounds_toArray, List.set_cons_zero, List.set_cons_succ]
      refine wpAnyH_take (i := 12) (oi := { dst := some 29, op := Op.move (Operand.tmp 28), type := 4, pos := _, after := #[{ on := 11, ground := Ground.data }, { on := 10, ground := Ground.chain }], guard := none }) (v := .bool false) rfl (by kernel_rfl) (by kernel_rfl) (by kernel_rfl) (fun _ _ _ h => h) (Or.inl ⟨by rfl, ?_⟩) hHeld ?_
      · intro u hu
        go_simp
      try simp only [Act.put, List.setIfInBounds_toArray, List.set_cons_zero, List.set_cons_succ]
      refine wpAnyH_take (i := 13) (oi := { dst := some 30, op := Op.move (Operand.tmp 0), type := 29, pos := _, after := #[{ on := 12, ground := Ground.guard }], guard := some (12, false) }) (v := .slice (some ⟨ub, 0, none⟩) l.length uc) rfl (by kernel_rfl) (by kernel_rfl) (by kernel_rfl) (fun _ _ _ h => h) (Or.inl ⟨by rfl, ?_⟩) hHeld ?_
      · intro u hu
        go_simp
      try simp only [Act.put, List.setIfInBounds_toArray, List.set_cons_zero, List.set_cons_succ]
      refine wpAnyH_take (i := 14) (oi := { dst := some 31, op := Op.move (Operand.tmp 5), type := 3, pos := _, after := #[{ on := 12, ground := Ground.guard }], guard := some (12, false) }) (v := .int .i64 (k : Int)) rfl (by kernel_rfl) (by kernel_rfl) (by kernel_rfl) (fun _ _ _ h => h) (Or.inl ⟨by rfl, ?_⟩) hHeld ?_
      · intro u hu
        go_simp
      try simp only [Act.put, List.setIfInBounds_toArray, List.set_cons_zero, List.set_cons_succ]
      refine wpAnyH_take (i := 15) (oi := { dst := some 32, op := Op.indexAddr 29 (Operand.tmp 30) (Operand.tmp 31), type := 0, pos := _, after := #[{ on := 13, ground := Ground.data }, { on := 14, ground := Ground.data }, { on := 12, ground := Ground.guard }], guard := some (12, false) }) (v := .pointer (some ⟨ub, k * 2, none⟩)) rfl (by kernel_rfl) (by kernel_rfl) (by kernel_rfl) (fun _ _ _ h => h) (Or.inl ⟨by rfl, ?_⟩) hHeld ?_
      · intro u hu
        go_simp
      try simp only [Act.put, List.setIfInBounds_toArray, List.set_cons_zero, List.set_cons_succ]
      refine wpAnyH_take (i := 16) (oi := { dst := some 33, op := Op.fieldAddr 35 (Operand.tmp 32) 1, type := 0, pos := _, after := #[{ on := 15, ground := Ground.data }, { on := 12, ground := Ground.guard }], guard := some (12, false) }) (v := .pointer (some ⟨ub, k * 2 + 1, none⟩)) rfl (by kernel_rfl) (by kernel_rfl) (by kernel_rfl) (fun _ _ _ h => h) (Or.inl ⟨by rfl, ?_⟩) hHeld ?_
      · intro u hu
        go_simp
      try simp only [Act.put, List.setIfInBounds_toArray, List.set_cons_zero, List.set_cons_succ]
      refine wpAnyH_take (i := 17) (oi := { dst := some 34, op := Op.load 4 (Operand.tmp 33), type := 4, pos := _, after := #[{ on := 16, ground := Ground.data }, { on := 12, ground := Ground.guard }], guard := some (12, false) }) (v := .bool tf) rfl (by kernel_rfl) (by kernel_rfl) (by kernel_rfl) (fun _ _ _ h => h) (Or.inl ⟨by rfl, ?_⟩) hHeld ?_
      · intro u hu
        have x1 := (Stp.of_below hu (fun _ => False)).cell cu1 id; go_simp
      try simp only [Act.put, List.setIfInBounds_toArray, List.set_cons_zero, List.set_cons_succ]
      refine wpAnyH_take (i := 18) (oi := { dst := some 35, op := Op.move (Operand.tmp 1), type := 32, pos := _, after := #[{ on := 12, ground := Ground.guard }], guard := some (12, false) }) (v := .slice (some ⟨vb, 0, none⟩) l.length vc) rfl (by kernel_rfl) (by kernel_rfl) (by kernel_rfl) (fun _ _ _ h => h) (Or.inl ⟨by rfl, ?_⟩) hHeld ?_
      · intro u hu
        go_simp
      try simp only [Act.put, List.setIfInBounds_toArray, List.set_cons_zero, List.set_cons_succ]
      refine wpAnyH_take (i := 19) (oi := { dst := some 36, op := Op.move (Operand.tmp 5), type := 3, pos := _, after := #[{ on := 12, ground := Ground.guard }], guard := some (12, false) }) (v := .int .i64 (k : Int)) rfl (by kernel_rfl) (by kernel_rfl) (by kernel_rfl) (fun _ _ _ h => h) (Or.inl ⟨by rfl, ?_⟩) hHeld ?_
      · intro u hu
        go_simp
      try simp only [Act.put, List.setIfInBounds_toArray, List.set_cons_zero, List.set_cons_succ]
      refine wpAnyH_take (i := 20) (oi := { dst := some 37, op := Op.indexAddr 32 (Operand.tmp 35) (Operand.tmp 36), type := 0, pos := _, after := #[{ on := 18, ground := Ground.data }, { on := 19, ground := Ground.data }, { on := 12, ground := Ground.guard }], guard := some (12, false) }) (v := .pointer (some ⟨vb, k * 2, none⟩)) rfl (by kernel_rfl) (by kernel_rfl) (by kernel_rfl) (fun _ _ _ h => h) (Or.inl ⟨by rfl, ?_⟩) hHeld ?_
      · intro u hu
        go_simp
      try simp only [Act.put, List.setIfInBounds_toArray, List.set_cons_zero, List.set_cons_succ]
      refine wpAnyH_take (i := 21) (oi := { dst := some 38, op := Op.fieldAddr 38 (Operand.tmp 37) 1, type := 0, pos := _, after := #[{ on := 20, ground := Ground.data }, { on := 12, ground := Ground.guard }], guard := some (12, false) }) (v := .pointer (some ⟨vb, k * 2 + 1, none⟩)) rfl (by kernel_rfl) (by kernel_rfl) (by kernel_rfl) (fun _ _ _ h => h) (Or.inl ⟨by rfl, ?_⟩) hHeld ?_
      · intro u hu
        go_simp
      try simp only [Act.put, List.setIfInBounds_toArray, List.set_cons_zero, List.set_cons_succ]
      refine wpAnyH_take (i := 22) (oi := { dst := some 39, op := Op.load 4 (Operand.tmp 38), type := 4, pos := _, after := #[{ on := 21, ground := Ground.data }, { on := 12, ground := Ground.guard }], guard := some (12, false) }) (v := .bool tf) rfl (by kernel_rfl) (by kernel_rfl) (by kernel_rfl) (fun _ _ _ h => h) (Or.inl ⟨by rfl, ?_⟩) hHeld ?_
      · intro u hu
        have x1 := (Stp.of_below hu (fun _ => False)).cell cv1 id; go_simp
      try simp only [Act.put, List.setIfInBounds_toArray, List.set_cons_zero, List.set_cons_succ]
      refine wpAnyH_take (i := 23) (oi := { dst := some 40, op := Op.binOp BinOp.neq 4 (Operand.tmp 34) (Operand.tmp 39) 4, type := 4, pos := _, after := #[{ on := 17, ground := Ground.data }, { on := 22, ground := Ground.data }, { on := 12, ground := Ground.guard }], guard := some (12, false) }) (v := .bool false) rfl (by kernel_rfl) (by kernel_rfl) (by kernel_rfl) (fun _ _ _ h => h) (Or.inl ⟨by rfl, ?_⟩) hHeld ?_
      · intro u hu
        go_simp
      try simp only [Act.put, List.setIfInBounds_toArray, List.set_cons_zero, List.set_cons_succ]
      refine wpAnyH_take (i := 24) (oi := { dst := some 41, op := Op.pick (Operand.tmp 29) (Operand.const (Value.bool true)) (Operand.tmp 40), type := 4, pos := _, after := #[{ on := 12, ground := Ground.data }, { on := 23, ground := Ground.data }], guard := none }) (v := .bool false) rfl (by kernel_rfl) (by kernel_rfl) (by kernel_rfl) (fun _ _ _ h => h) (Or.inl ⟨by rfl, ?_⟩) hHeld ?_
      · intro u hu
        go_simp
      try simp only [Act.put, List.setIfInBounds_toArray, List.set_cons_zero, List.set_cons_succ]
      refine wpAnyH_done (by kernel_rfl) ?_ _
      have B9 := bnext hb hHeld (Nat.le_refl _)
      clear hHeld cu0 cu1 cv0 cv1
      go_wp2_with fail
      go_roundw
      case rel => exact ⟨k + 1, by omega, by go_num, B9⟩
      case measure => simp [intOf]; omega
    · have a9 : ¬ (k : Int) < (l.length : Int) := by omega
      go_wp2_with fail
      go_returns
      exact ⟨rfl, hb⟩
end Go.Proofs.YtdfifneikmlmoaaGreat
