/-
  What By, About, Written and All of the document's graph return: no statement is proved here.
-/
import Derived.Test.YtdfifneikmlmoaaGreatRgA
namespace Go.Proofs.YtdfifneikmlmoaaGreat
open Go.ChangeShapes Go.WideShapes Go.ChangeAt Go.RowKit
set_option linter.unusedVariables false
set_option linter.unusedSimpArgs false

/-- A list of numbers that is being made. -/
structure BuI (w wr : World) (v : Value) (l : List Int) : Prop where
  ow : OwV wr v l
  nw : New w.heap.size v
  b : Below w.heap.size w wr
theorem BuI.later {w wr w' : World} {v : Value} {l : List Int} (h : BuI w wr v l) (k : Below wr.heap.size wr w') : BuI w w' v l := ⟨h.ow.later k, h.nw, bnext h.b k (Nat.le_refl _)⟩
theorem BuI.made (w wr : World) (b : Below w.heap.size w wr) : BuI w (wr.alloc (.cells #[] 3)) (.slice (some ⟨wr.heap.size, 0, none⟩) 0 0) [] :=
  ⟨World.ownsRow_made wr #[] 0 (Nat.zero_le _) (Nat.zero_le _) rfl, fun r e => by
    have : wr.heap.size = r := by simpa [Value.ownBlock] using e
    have := b.size
    omega, bnext b ((Below.refl _ wr).alloc (Nat.le_refl _) _) (Nat.le_refl _)⟩
theorem BuI.app {w wr w1 w' : World} {v v' : Value} {l : List Int} {x : Int} (h : BuI w wr v l) (b1 : Below wr.heap.size wr w1) (hA : Apd w1 w.heap.size 3 1 v l.length 1 (l.map (Value.int .i64) ++ [.int .i64 x]) v' w') : BuI w w' v' (l ++ [x]) := by
  obtain ⟨h1, h2, h3, h4, h5⟩ := hA
  refine ⟨?_, h2, ?_⟩
  · unfold OwV; simpa using h1
  · exact ((Stp.of_below (bnext h.b b1 (Nat.le_refl _)) (fun _ => False)).next h4 (fun x e => .inr (h.nw x e))).below (Nat.le_refl _) (fun x e => e.elim)
theorem flt_step {l : List Pt} {k : Nat} {p : Pt} (h : l[k]? = some p) (q : Pt → Bool) : (l.take (k + 1)).filter q = (l.take k).filter q ++ (if q p = true then [p] else []) := by
  rw [List.take_add_one, h, List.filter_append]
  congr 1
  simp [List.filter_cons]
theorem take_all {l : List Pt} {k : Nat} (h : l.length ≤ k) : l.take k = l := List.take_of_length_le h
set_option maxRecDepth 100000 in
set_option maxHeartbeats 2000000 in
theorem rwritten_any {w : World} {g : Nat} {Z : GZ} {a : Option Addr} {c : Nat} {L : List Pe} {R : Nat → Prop} (H : Rf w g Z a c L R) :
    Calls Tryz.prog 15 #[.pointer (some ⟨g, 0, none⟩)] w fun e w' => ∃ v, e = .returned v ∧ OwV w' v (ids (Z.l.filter (fun p => p.wr))) ∧ New w.heap.size v ∧ Below w.heap.size w w' := by
  have hfew := H.few
  have hlen := H.len
  have hcap : L.length ≤ maxLen := by obtain ⟨_, _, _, h, _⟩ := H.row.shape; exact h
  have hlen' : Hid (L.length = Z.l.length) := hlen
  clear hlen
  go_enter Tryz.func15, Tryz.ntmps15
  go_wp2_with fail
  have i0 := BuI.made w w (Below.refl _ _)
  go_loopw [3, 4] (fun u v wr => ∃ (k : Nat) (sv : Sv), k ≤ L.length ∧ u = .slice sv.a sv.n sv.c ∧ v = .int .i64 (k : Int) ∧ BuI w wr (.slice sv.a sv.n sv.c) (ids ((Z.l.take k).filter (fun p => p.wr)))) (fun _ v _ => L.length - (intOf v).toNat)
  case atStart => exact ⟨0, ⟨_, _, _⟩, Nat.zero_le _, rfl, rfl, i0⟩
  case round =>
    clear i0
    obtain ⟨k, sv, hk, rfl, rfl, I⟩ := hrel
    have H4 := H.later I.b
    obtain ⟨z0, z1⟩ := H4.cells
    by_cases hkl : k < L.length
    · obtain ⟨b, t, rfl, e2, hr⟩ := H4.row.el k hkl
      obtain ⟨c0, c1, c2, c3, c4, c5, c6, c7, c8⟩ := Pe.at9 hr
      have a9 : (k : Int) < (L.length : Int) := by omega
      have a8 : (0 : Int) ≤ (k : Int) := by omega
      have hst := flt_step (H4.get e2) (fun p => p.wr)
      have hbig : (ids ((Z.l.take k).filter (fun p => p.wr))).length + 1 ≤ 1000000 := by
        have h1 : ((Z.l.take k).filter (fun p => p.wr)).length ≤ k := Nat.le_trans (List.length_filter_le _ _) (by simp; omega)
        unfold ids; simp; omega
      clear hr
      by_cases hb : t.p.wr = true
      · have hq : t.p.wr = true := hb
        rw [if_pos hq] at hst
        rw [show t.p.wr = true from hb] at c8
        go_wp2_with (first
          | (at_builtin; refine at_appR elI w.heap.size rfl _ _ (by rfl) (by rfl) (ro_later I.ow ((Below.refl _ wr).alloc (Nat.le_refl _) _)) I.nw (some ⟨wr.heap.size, 0, none⟩) 1 [.int .i64 t.p.id] (by rfl) (by simp) (fun e => by cases e) (fun ad e => by injection e with e; subst e; exact cell_one_new _ _ _) (by simp [Value.oneCell']) hbig (Nat.le_trans I.b.size (by simp)) ?_; intro v' w9 hA; have I9 := I.app ((Below.refl _ wr).alloc (Nat.le_refl _) _) hA; obtain ⟨xa, xn, xc, rfl⟩ := I9.ow.shape; clear hA))
        go_roundw
        case rel => exact ⟨k + 1, ⟨xa, xn, xc⟩, by omega, rfl, by go_num, by rw [hst]; unfold ids at I9 ⊢; simpa using I9⟩
        case measure => simp [intOf]; omega
      · have hq : ¬ t.p.wr = true := hb
        rw [if_neg hq, List.append_nil] at hst
        rw [show t.p.wr = false from by simpa using hb] at c8
        go_wp2_with fail
        go_roundw
        case rel => exact ⟨k + 1, sv, by omega, rfl, by go_num, by rw [hst]; exact I⟩
        case measure => simp [intOf]; omega
    · have a9 : ¬ (k : Int) < (L.length : Int) := by omega
      have hk2 : Z.l.length ≤ k := by rw [← hlen'.out]; omega
      rw [take_all hk2] at I
      go_wp2_with fail
      go_returns
      exact ⟨_, rfl, I.ow, I.nw, I.b⟩
set_option maxRecDepth 100000 in
set_option maxHeartbeats 2000000 in
theorem rall_any {w : World} {g : Nat} {Z : GZ} {a : Option Addr} {c : Nat} {L : List Pe} {R : Nat → Prop} (H : Rf w g Z a c L R) :
    Calls Tryz.prog 5 #[.pointer (some ⟨g, 0, none⟩)] w fun e w' => ∃ v, e = .returned v ∧ OwV w' v (ids (Z.l.filter (fun _ => true))) ∧ New w.heap.size v ∧ Below w.heap.size w w' := by
  have hfew := H.few
  have hlen := H.len
  have hcap : L.length ≤ maxLen := by obtain ⟨_, _, _, h, _⟩ := H.row.shape; exact h
  have hlen' : Hid (L.length = Z.l.length) := hlen
  clear hlen
  go_enter Tryz.func5, Tryz.ntmps5
  go_wp2_with fail
  have i0 := BuI.made w w (Below.refl _ _)
  go_loopw [3, 4] (fun u v wr => ∃ (k : Nat) (sv : Sv), k ≤ L.length ∧ u = .slice sv.a sv.n sv.c ∧ v = .int .i64 (k : Int) ∧ BuI w wr (.slice sv.a sv.n sv.c) (ids ((Z.l.take k).filter (fun _ => true)))) (fun _ v _ => L.length - (intOf v).toNat)
  case atStart => exact ⟨0, ⟨_, _, _⟩, Nat.zero_le _, rfl, rfl, i0⟩
  case round =>
    clear i0
    obtain ⟨k, sv, hk, rfl, rfl, I⟩ := hrel
    have H4 := H.later I.b
    obtain ⟨z0, z1⟩ := H4.cells
    by_cases hkl : k < L.length
    · obtain ⟨b, t, rfl, e2, hr⟩ := H4.row.el k hkl
      obtain ⟨c0, c1, c2, c3, c4, c5, c6, c7, c8⟩ := Pe.at9 hr
      have a9 : (k : Int) < (L.length : Int) := by omega
      have a8 : (0 : Int) ≤ (k : Int) := by omega
      have hst := flt_step (H4.get e2) (fun _ => true)
      rw [if_pos rfl] at hst
      have hbig : (ids ((Z.l.take k).filter (fun _ => true))).length + 1 ≤ 1000000 := by
        have h1 : ((Z.l.take k).filter (fun _ => true)).length ≤ k := Nat.le_trans (List.length_filter_le _ _) (by simp; omega)
        unfold ids; simp; omega
      clear hr
      go_wp2_with (first
        | (at_builtin; refine at_appR elI w.heap.size rfl _ _ (by rfl) (by rfl) (ro_later I.ow ((Below.refl _ wr).alloc (Nat.le_refl _) _)) I.nw (some ⟨wr.heap.size, 0, none⟩) 1 [.int .i64 t.p.id] (by rfl) (by simp) (fun e => by cases e) (fun ad e => by injection e with e; subst e; exact cell_one_new _ _ _) (by simp [Value.oneCell']) hbig (Nat.le_trans I.b.size (by simp)) ?_; intro v' w9 hA; have I9 := I.app ((Below.refl _ wr).alloc (Nat.le_refl _) _) hA; obtain ⟨xa, xn, xc, rfl⟩ := I9.ow.shape; clear hA))
      go_roundw
      case rel => exact ⟨k + 1, ⟨xa, xn, xc⟩, by omega, rfl, by go_num, by rw [hst]; unfold ids at I9 ⊢; simpa using I9⟩
      case measure => simp [intOf]; omega
    · have a9 : ¬ (k : Int) < (L.length : Int) := by omega
      have hk2 : Z.l.length ≤ k := by rw [← hlen'.out]; omega
      rw [take_all hk2] at I
      go_wp2_with fail
      go_returns
      exact ⟨_, rfl, I.ow, I.nw, I.b⟩
end Go.Proofs.YtdfifneikmlmoaaGreat
