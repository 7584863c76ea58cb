/-
  What New, own, settle, Settle and SettleAll of the document's graph return and leave: no statement is proved here.
-/
import Derived.Test.YtdfifneikmlmoaaRgB
import Derived.Great.BuildSlice
namespace Go.Proofs.Ytdfifneikmlmoaa
open Go.ChangeShapes Go.WideShapes Go.ChangeAt Go.RowKit
set_option linter.unusedVariables false
set_option linter.unusedSimpArgs false

/-- The document's graph at g. -/
def Rh (w : World) (g : Nat) (Z : GZ) (R : Nat → Prop) : Prop := ∃ a c L, Rf w g Z a c L R
/-- What is settled, of a sector (less than 0: of all). -/
def qS (s : Int) (p : Pt) : Bool := decide (s < 0) || p.at' == s
def kS (s : Int) (p : Pt) : Bool := !(p.wr && qS s p)
theorem len_not {α : Type} (l : List α) (f : α → Bool) : (l.filter fun x => !f x).length + (l.filter f).length = l.length := by
  induction l with
  | nil => rfl
  | cons a t ih => rw [List.filter_cons, List.filter_cons]; cases f a <;> simp <;> omega
theorem stl_ok {Z : GZ} (h : Z.ok 2000) (q : Pt → Bool) : (Z.stl q).ok 2000 :=
  ⟨h.srt.filter _, fun p hp => h.rng p (List.mem_filter.1 hp).1, fun p hp => h.ft p (List.mem_filter.1 hp).1, fun p hp => h.nds p (List.mem_filter.1 hp).1, fun p hp => h.wf p (List.mem_filter.1 hp).1, h.l0, h.lt⟩
theorem Rf.mono {w : World} {g : Nat} {Z : GZ} {a : Option Addr} {c : Nat} {L : List Pe} {R R' : Nat → Prop} (h : Rf w g Z a c L R) (k : ∀ x, R x → R' x) (hg : ¬ R' g) (hl : ∀ x, R' x → x < w.heap.size) : Rf w g Z a c L R' :=
  ⟨h.cc, h.row, fun t ht => (h.ms t ht).mono k, fun r hr => k r (h.rv r hr), hg, hl, h.eq, h.ok, h.nl⟩
theorem stl_congr {Z : GZ} {q q' : Pt → Bool} (h : ∀ p ∈ Z.l, q p = q' p) : Z.stl q = Z.stl q' ∧ Z.stlN q = Z.stlN q' := by
  have h1 : (Z.l.filter fun p => !(p.wr && q p)) = Z.l.filter fun p => !(p.wr && q' p) := List.filter_congr (fun p hp => by rw [h p hp])
  have h2 : (Z.l.filter fun p => p.wr && q p) = Z.l.filter fun p => p.wr && q' p := List.filter_congr (fun p hp => by rw [h p hp])
  unfold GZ.stl GZ.stlN
  rw [h1, h2]; exact ⟨rfl, rfl⟩
theorem stl_none {Z : GZ} {q : Pt → Bool} (h : ∀ p ∈ Z.l, q p = false) : Z.stl q = Z ∧ Z.stlN q = 0 := by
  have h1 : (Z.l.filter fun p => !(p.wr && q p)) = Z.l := List.filter_eq_self.2 (fun p hp => by rw [h p hp]; simp)
  have h2 : (Z.l.filter fun p => p.wr && q p) = [] := List.filter_eq_nil_iff.2 (fun p hp => by rw [h p hp]; simp)
  unfold GZ.stl GZ.stlN
  rw [h1, h2]; exact ⟨rfl, rfl⟩
set_option maxRecDepth 100000 in
set_option maxHeartbeats 2000000 in
theorem rnew_any (w : World) :
    Calls Try.prog 22 #[] w fun e w' => e = .returned (.pointer (some ⟨w.heap.size, 0, none⟩)) ∧ Rh w' w.heap.size GZ.new (fun _ => False) ∧ Below w.heap.size w w' := by
  have hc := Cs.made w [.int .i64 0, .slice none 0 0] 61 (by simp [Value.oneCell'])
  have ok0 : GZ.new.ok 2000 := ⟨List.Pairwise.nil, (fun p hp => by cases hp), (fun p hp => by cases hp), (fun p hp => by cases hp), (fun p hp => by cases hp), Int.le_refl _, by decide⟩
  go_enter Try.func22, Try.ntmps22
  go_wp2_with fail
  go_returns
  exact ⟨rfl, ⟨none, 0, [], hc, OwP.nil _, (fun t ht => by cases ht), (fun r hr => by cases hr), id, (fun x hx => hx.elim), rfl, ok0, (fun p hp => by cases hp)⟩, (Below.refl _ w).alloc (Nat.le_refl _) _⟩
end Go.Proofs.Ytdfifneikmlmoaa
