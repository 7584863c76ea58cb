/-
  The document's graph of layer 14 in memory: no statement is proved here.
-/
import Derived.Test.YtdfifneikmlmoaaGreatGrT
import Derived.Test.YtdfifneikmlmoaaGreatPeA
namespace Go.Proofs.YtdfifneikmlmoaaGreat
open Go.ChangeShapes Go.WideShapes Go.ChangeAt Go.RowKit
set_option linter.unusedVariables false
set_option linter.unusedSimpArgs false

/-- The document's graph at g. -/
structure Rf (w : World) (g : Nat) (Z : GZ) (a : Option Addr) (c : Nat) (L : List Pe) (R : Nat → Prop) : Prop where
  cc : Cs w g [.int .i64 Z.last, .slice a L.length c]
  row : OwP w (.slice a L.length c) L
  ms : ∀ t ∈ L, PtM w R t.p t.d t.n
  rv : ∀ r, (Value.slice a L.length c).ownBlock = some r → R r
  rg : ¬ R g
  lt : ∀ x, R x → x < w.heap.size
  eq : L.map (·.p) = Z.l
  ok : Z.ok 2000
  nl : ∀ p ∈ Z.l, p.needs.length ≤ 100000
section
variable {w w' : World} {g : Nat} {Z : GZ} {a : Option Addr} {c : Nat} {L : List Pe} {R F : Nat → Prop}
theorem Rf.step (h : Rf w g Z a c L R) (k : Stp F w w') (hg : ¬ F g) (hR : ∀ x, R x → ¬ F x) : Rf w' g Z a c L R :=
  ⟨h.cc.step k hg, h.row.step k (fun r hr => hR r (h.rv r hr)), fun t ht => (h.ms t ht).step k hR, h.rv, h.rg, fun x hx => Nat.lt_of_lt_of_le (h.lt x hx) k.size, h.eq, h.ok, h.nl⟩
theorem Rf.later (h : Rf w g Z a c L R) (k : Below w.heap.size w w') : Rf w' g Z a c L R := h.step (Stp.of_below k (fun _ => False)) id (fun _ _ => id)
theorem Rf.len (h : Rf w g Z a c L R) : L.length = Z.l.length := by rw [← h.eq, List.length_map]
theorem Rf.few (h : Rf w g Z a c L R) : L.length ≤ 2000 := by have := h.len; have := h.ok.few; omega
theorem Rf.get (h : Rf w g Z a c L R) {k : Nat} {t : Pe} (e : L[k]? = some t) : Z.l[k]? = some t.p := by rw [← h.eq, List.getElem?_map, e]; rfl
theorem Rf.mem (h : Rf w g Z a c L R) {k : Nat} {t : Pe} (e : L[k]? = some t) : t.p ∈ Z.l := List.mem_of_getElem? (h.get e)
theorem Rf.cells (h : Rf w g Z a c L R) : w.cell? ⟨g, 0, none⟩ = some (.int .i64 Z.last) ∧ w.cell? ⟨g, 1, none⟩ = some (.slice a L.length c) := ⟨h.cc.cell 0 _ rfl, h.cc.cell 1 _ rfl⟩
end
/-- Where a number is. -/
def fdx (l : List Pt) (i : Int) : Int := match l.findIdx? (fun p => p.id == i) with
  | some k => (k : Int)
  | none => -1
set_option maxRecDepth 100000 in
set_option maxHeartbeats 2000000 in
theorem find_any {w : World} {g : Nat} {Z : GZ} {a : Option Addr} {c : Nat} {L : List Pe} {R : Nat → Prop} (H : Rf w g Z a c L R) (i : Int) :
    Calls Tryz.prog 50 #[.pointer (some ⟨g, 0, none⟩), .int .i64 i] w fun e w' => e = .returned (.int .i64 (fdx Z.l i)) ∧ w = w' := by
  obtain ⟨z0, z1⟩ := H.cells
  have hfew := H.few
  have hcap : L.length ≤ maxLen := by obtain ⟨_, _, _, h, _⟩ := H.row.shape; exact h
  go_enter Tryz.func50, Tryz.ntmps50
  go_wp2_with fail
  go_loopw [5] (fun v wr => ∃ k : Nat, k ≤ L.length ∧ v = .int .i64 (k : Int) ∧ wr = w ∧ ∀ p ∈ Z.l.take k, p.id ≠ i) (fun v _ => L.length - (intOf v).toNat)
  case atStart => exact ⟨0, Nat.zero_le _, rfl, rfl, fun p hp => by cases hp⟩
  case round =>
    obtain ⟨k, hk, rfl, rfl, hno⟩ := hrel
    by_cases hkl : k < L.length
    · obtain ⟨b, t, rfl, e2, hr⟩ := H.row.el k hkl
      obtain ⟨c0, _⟩ := Pe.at9 hr
      have a9 : (k : Int) < (L.length : Int) := by omega
      have a8 : (0 : Int) ≤ (k : Int) := by omega
      have hget := H.get e2
      by_cases hid : t.p.id = i
      · have hf : fdx Z.l i = (k : Int) := by
          unfold fdx
          have : Z.l.findIdx? (fun p => p.id == i) = some k := by
            rw [List.findIdx?_eq_some_iff_getElem]
            have hk2 : k < Z.l.length := by rw [← H.len]; exact hkl
            have hg2 : Z.l[k] = t.p := by rw [List.getElem?_eq_getElem hk2] at hget; injection hget
            refine ⟨hk2, by rw [hg2]; simpa using hid, fun j hj => ?_⟩
            have := hno Z.l[j] (List.mem_iff_getElem.2 ⟨j, by simp; omega, by simp⟩)
            simpa using this
          rw [this]
        have hf' : Hid (fdx Z.l i = (k : Int)) := hf
        clear hf
        go_wp2_with fail
        go_returns
        rw [hf'.out]; exact ⟨by simp, rfl⟩
      · go_wp2_with fail
        go_roundw
        case rel =>
          refine ⟨k + 1, by omega, by go_num, by simp, fun p hp => ?_⟩
          rw [List.take_add_one, hget] at hp
          rcases List.mem_append.1 hp with hp | hp
          · exact hno p hp
          · have : p = t.p := by simpa using hp
            rw [this]; exact hid
        case measure => simp [intOf]; omega
    · have hf : fdx Z.l i = -1 := by
        unfold fdx
        have : Z.l.findIdx? (fun p => p.id == i) = none := by
          rw [List.findIdx?_eq_none_iff]
          intro p hp
          have hk2 : Z.l.length ≤ k := by rw [← H.len]; omega
          have := hno p (by rw [List.take_of_length_le hk2]; exact hp)
          simpa using this
        rw [this]
      have hf' : Hid (fdx Z.l i = -1) := hf
      clear hf
      have a9 : ¬ (k : Int) < (L.length : Int) := by omega
      go_wp2_with fail
      go_returns
      rw [hf'.out]; exact ⟨by simp, rfl⟩
end Go.Proofs.YtdfifneikmlmoaaGreat
