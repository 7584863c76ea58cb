/-
  What Ready and Write of the document's graph return and leave: no statement is proved here.
-/
import Derived.Test.YtdfifneikmlmoaaGreatRgG
namespace Go.Proofs.YtdfifneikmlmoaaGreat
open Go.ChangeShapes Go.WideShapes Go.ChangeAt Go.RowKit
set_option linter.unusedVariables false
set_option linter.unusedSimpArgs false

theorem flt_stepG {α : Type} {l : List α} {k : Nat} {p : α} (h : l[k]? = some p) (q : α → Bool) : (l.take (k + 1)).filter q = (l.take k).filter q ++ (if q p = true then [p] else []) := by
  rw [List.take_add_one, h, List.filter_append]
  congr 1
  simp [List.filter_cons]
/-- Which of the first k of a sector are ready. -/
def rdK (l : List Pt) (s : Int) (k : Nat) : List Int := ((((rb l l.length).take k).filter fun t => t.1.at' == s && t.2).map (·.1)).map (·.id)
theorem rdK_all {l : List Pt} {s : Int} {k : Nat} (h : l.length ≤ k) : rdK l s k = rdy l s := by
  unfold rdK
  rw [List.take_of_length_le (by rw [rb_len (Nat.le_refl _)]; exact h)]
  exact rb_rdy l s
theorem rdK_step {l : List Pt} {s : Int} {k : Nat} {p : Pt} (h : l[k]? = some p) : rdK l s (k + 1) = rdK l s k ++ (if (p.at' == s && rbS l (rb l k) p) = true then [p.id] else []) := by
  have hk : k < l.length := (List.getElem?_eq_some_iff.1 h).1
  unfold rdK
  rw [flt_stepG (rb_get h hk (Nat.le_refl _))]
  rw [List.map_append, List.map_append]
  congr 1
  split <;> rfl
theorem rdK_len (l : List Pt) (s : Int) (k : Nat) : (rdK l s k).length ≤ k := by
  unfold rdK
  rw [List.length_map, List.length_map]
  exact Nat.le_trans (List.length_filter_le _ _) (by simp; omega)
set_option maxRecDepth 100000 in
set_option maxHeartbeats 4000000 in
theorem rready_any {w : World} {g : Nat} {Z : GZ} {a : Option Addr} {c : Nat} {L : List Pe} {R : Nat → Prop} (H : Rf w g Z a c L R) (s : Int) :
    Calls Tryz.prog 35 #[.pointer (some ⟨g, 0, none⟩), .int .i64 s] w fun e w' => ∃ v, e = .returned v ∧ OwV w' v (rdy Z.l s) ∧ New w.heap.size v ∧ Below w.heap.size w w' := by
  have hfew := H.few
  have hcap : L.length ≤ maxLen := by obtain ⟨_, _, _, h, _⟩ := H.row.shape; exact h
  have hlen' : Hid (L.length = Z.l.length) := H.len
  have b0 : Below w.heap.size w (w.alloc (.cells #[] 3)) := (Below.refl _ w).alloc (Nat.le_refl _) _
  have hR := readies_any (H.later b0)
  go_enter Tryz.func35, Tryz.ntmps35
  go_wp2_with (first
    | (go_at_call 51; refine hR.mono ?_; rintro e w1 ⟨r, rfl, cR, a1, b1⟩))
  have i0 := (BuI.made w w (Below.refl _ _)).later b1
  have hr0 : w.heap.size < r := by have : (w.alloc (.cells #[] 3)).heap.size = w.heap.size + 1 := by simp
                                   omega
  clear hR
  go_loopw [5, 7] (fun u v wr => ∃ (k : Nat) (sv : Sv), k ≤ L.length ∧ u = .slice sv.a sv.n sv.c ∧ v = .int .i64 (k : Int) ∧ BuI w wr (.slice sv.a sv.n sv.c) (rdK Z.l s k) ∧ Cs wr r (bV (ryB Z.l L.length)) ∧ (∀ x, (Value.slice sv.a sv.n sv.c).ownBlock = some x → x ≠ r)) (fun _ v _ => L.length - (intOf v).toNat)
  case atStart => exact ⟨0, ⟨_, _, _⟩, Nat.zero_le _, rfl, rfl, i0, cR, fun x hx e => by
    have : w.heap.size = x := by simpa [Value.ownBlock] using hx
    omega⟩
  case round =>
    clear i0 cR
    obtain ⟨k, sv, hk, rfl, rfl, I, cR, ap⟩ := hrel
    have H4 := H.later I.b
    obtain ⟨z0, z1⟩ := H4.cells
    have a8 : (0 : Int) ≤ (k : Int) := by omega
    by_cases hkl : k < L.length
    · obtain ⟨b, t, rfl, e2, hr⟩ := H4.row.el k hkl
      obtain ⟨c0, c1, _⟩ := Pe.at9 hr
      have a9 : (k : Int) < (L.length : Int) := by omega
      have hst := rdK_step (s := s) (H4.get e2)
      have cy := cR.cell k (.bool (rbS Z.l (rb Z.l k) t.p)) (by unfold bV; rw [List.getElem?_map, hlen'.out, ryB_get (H4.get e2) (by rw [← hlen'.out]; exact hkl) (Nat.le_refl _)]; rfl)
      have hbig : (rdK Z.l s k).length + 1 ≤ 1000000 := by have := rdK_len Z.l s k; omega
      obtain ⟨y, hy⟩ : ∃ y, Hid (rbS Z.l (rb Z.l k) t.p = y) := ⟨_, rfl⟩
      rw [hy.out] at cy hst
      clear hr
      by_cases ha : t.p.at' = s
      · cases y with
        | true =>
          have hq : (t.p.at' == s && true) = true := by simp [ha]
          rw [if_pos hq] at hst
          go_wp2_with (first
            | (at_builtin; refine at_appR elI w.heap.size rfl _ _ (by rfl) (by rfl) (ro_later I.ow ((Below.refl _ wr).alloc (Nat.le_refl _) _)) I.nw (some ⟨wr.heap.size, 0, none⟩) 1 [.int .i64 t.p.id] (by rfl) (by simp) (fun e => by cases e) (fun ad e => by injection e with e; subst e; exact cell_one_new _ _ _) (by simp [Value.oneCell']) hbig (Nat.le_trans I.b.size (by simp)) ?_; intro v' w9 hA; have I9 := I.app ((Below.refl _ wr).alloc (Nat.le_refl _) _) hA; obtain ⟨xa, xn, xc, rfl⟩ := I9.ow.shape
               have cR9 := (cR.later ((Below.refl _ wr).alloc (Nat.le_refl _) (.cells #[.int .i64 t.p.id] 3))).step hA.2.2.2.1 (fun e => ap r e rfl)
               have ap9 : ∀ x, (Value.slice xa xn xc).ownBlock = some x → x ≠ r := fun x hx e => by
                 have hl := cR.lt
                 rcases hA.2.2.1 with h | ⟨h, _⟩
                 · rw [h] at hx; exact ap x hx e
                 · rw [h] at hx; injection hx with hx
                   have : (wr.alloc (.cells #[.int .i64 t.p.id] 3)).heap.size = wr.heap.size + 1 := by simp
                   omega
               clear hA))
          go_roundw
          case rel => exact ⟨k + 1, ⟨xa, xn, xc⟩, by omega, rfl, by go_num, by rw [hst]; exact I9, cR9, ap9⟩
          case measure => simp [intOf]; omega
        | false =>
          have hq : ¬ (t.p.at' == s && false) = true := by simp
          rw [if_neg hq, List.append_nil] at hst
          go_wp2_with fail
          go_roundw
          case rel => exact ⟨k + 1, sv, by omega, rfl, by go_num, by rw [hst]; exact I, cR, ap⟩
          case measure => simp [intOf]; omega
      · have hq : ¬ (t.p.at' == s && y) = true := by simp [ha]
        rw [if_neg hq, List.append_nil] at hst
        go_wp2_with fail
        go_roundw
        case rel => exact ⟨k + 1, sv, by omega, rfl, by go_num, by rw [hst]; exact I, cR, ap⟩
        case measure => simp [intOf]; omega
    · have a9 : ¬ (k : Int) < (L.length : Int) := by omega
      have hk2 : Z.l.length ≤ k := by rw [← hlen'.out]; omega
      rw [rdK_all hk2] at I
      go_wp2_with fail
      go_returns
      exact ⟨_, rfl, I.ow, I.nw, I.b⟩
end Go.Proofs.YtdfifneikmlmoaaGreat
