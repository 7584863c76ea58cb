/-
  Texts of my own, joined: no statement is proved here.
-/
import Derived.Great.BuildSlice
import Derived.Deep.CutBlock
import Derived.Test.YtgdnhkdfcjpdiaaGreatDoorJas
import Derived.Test.YtgdnhkdfcjpdiaaGreatDoorJbl
set_option linter.unusedSimpArgs false
set_option linter.unusedVariables false
namespace Go.Proofs.YtgdnhkdfcjpdiaaGreatDoor
open Go.ChangeShapes Go.WideShapes Go.ChangeAt Go.RowKit
set_option maxRecDepth 100000
def onc (e : Int × Pg) : List Value := .int .i64 e.1 :: e.2.cs
theorem onc_len (e : Int × Pg) : (onc e).length = 67 := by unfold onc; simp [e.2.cs_len]
def e0 : Int × Pg := (0, ⟨Blk.zero, false, 0⟩)
def flN (l : El) : List Value := l.flatMap onc
theorem flN_len (l : El) : (flN l).length = l.length * 67 := by
  unfold flN
  induction l with
  | nil => rfl
  | cons a r ih => rw [List.flatMap_cons, List.length_append, ih, onc_len, List.length_cons]; omega
def OwL (w : World) (v : Value) (l : El) : Prop := w.ownsRow 0 272 67 v l.length (flN l)
structure RwL (w : World) (g cap : Nat) (l : El) (cur : Array Value) : Prop where
  at' : w.heap[g]? = some (.cells cur 272 (0, 0))
  le : l.length ≤ cap
  cm : cap ≤ maxLen
  size : cur.size = cap * 67
  take : cur.toList.take (l.length * 67) = flN l
section
variable {w w' : World} {v : Value} {l : El} {F : Nat → Prop}
theorem OwL.nil (w : World) : OwL w (.slice none 0 0) [] := ⟨rfl, .inl ⟨rfl, rfl⟩⟩
theorem OwL.row (h : OwL w v l) : (v = .slice none 0 0 ∧ l = []) ∨ ∃ g cap cur, v = .slice (some ⟨g, 0, none⟩) l.length cap ∧ RwL w g cap l cur := by
  rcases h.2 with ⟨h1, h2⟩ | ⟨g, cap, cur, h1, _, h3, h4, h5, h6, h7⟩
  · exact .inl ⟨h1, List.eq_nil_of_length_eq_zero h2⟩
  · exact .inr ⟨g, cap, cur, h1, h3, h4, h5, h6, h7⟩
theorem RwL.own {g cap : Nat} {cur : Array Value} (h : RwL w g cap l cur) : OwL w (.slice (some ⟨g, 0, none⟩) l.length cap) l :=
  ⟨flN_len l, .inr ⟨g, cap, cur, rfl, Nat.zero_le _, h.at', h.le, h.cm, h.size, h.take⟩⟩
theorem RwL.lt {g cap : Nat} {cur : Array Value} (h : RwL w g cap l cur) : g < w.heap.size := (Array.getElem?_eq_some_iff.1 h.at').1
theorem OwL.step (h : OwL w v l) (k : Stp F w w') (hF : ∀ r, v.ownBlock = some r → ¬ F r) : OwL w' v l := by
  rcases h.row with ⟨rfl, rfl⟩ | ⟨g, cap, cur, rfl, hw⟩
  · exact OwL.nil w'
  · exact RwL.own (cur := cur) ⟨by rw [k.block g hw.lt (hF g rfl)]; exact hw.at', hw.le, hw.cm, hw.size, hw.take⟩
end
set_option maxRecDepth 100000
structure Rx (w : World) (yc y q : Nat) (Z : CZ) (s : PS) (lv : Value) (E R : Nat → Prop) : Prop where
  rd : RD w y q Z.d R
  rw : Rw w q (ref s)
  hp : Z.p = some s
  c : Cs w yc [.pointer (some ⟨y, 0, none⟩), .int .i64 Z.n, lv, .int .i64 Z.h, .int .i64 Z.m]
  ow : OwL w lv Z.l
  eg : E yc
  eo : ∀ r, lv.ownBlock = some r → E r ∧ r ≠ yc
  er : ∀ x, E x → ¬ R x
  eq : ¬ E q
  nq : ¬ R q
  lt : ∀ x, E x → x < w.heap.size
  qt : q < w.heap.size
def Rl (q : Nat) (E R : Nat → Prop) : Nat → Prop := fun x => E x ∨ R x ∨ x = q
section
variable {w w' : World} {yc y q : Nat} {Z Z' : CZ} {s s' : PS} {lv lv' : Value} {E E' R R' B : Nat → Prop}
theorem rw_step {B : Nat → Prop} {w w' : World} {q : Nat} {p : RS} (h : Rw w q p) (k : Stp B w w') (hq : ¬ B q) (hl : q < w.heap.size) : Rw w' q p :=
  ⟨k.cell h.c0 hq, k.cell h.c1 hq, k.cell h.c2 hq, by rw [k.frozen (p := ⟨q, 0, none⟩) hl hq]; exact h.f0, by rw [k.frozen (p := ⟨q, 1, none⟩) hl hq]; exact h.f1, by rw [k.frozen (p := ⟨q, 2, none⟩) hl hq]; exact h.f2⟩
theorem Rx.step (H : Rx w yc y q Z s lv E R) (k : Stp B w w') (h1 : ∀ x, E x → ¬ B x) (h2 : ∀ x, R x → ¬ B x) (h3 : ¬ B q) : Rx w' yc y q Z s lv E R :=
  ⟨H.rd.step k h2, rw_step H.rw k h3 H.qt, H.hp, H.c.step k (h1 _ H.eg), H.ow.step k (fun r hr => h1 r (H.eo r hr).1), H.eg, H.eo, H.er, H.eq, H.nq, fun x hx => Nat.lt_of_lt_of_le (H.lt x hx) k.size, Nat.lt_of_lt_of_le H.qt k.size⟩
theorem Rx.later (H : Rx w yc y q Z s lv E R) (k : Below w.heap.size w w') : Rx w' yc y q Z s lv E R := H.step (Stp.of_below k (fun _ => False)) (fun _ _ => id) (fun _ _ => id) id
end
theorem rcnew_bad {w : World} (y : Nat) (n : Int) (h : n < 1 ∨ 64 < n) :
    Calls Tryz.prog 52 #[.pointer (some ⟨y, 0, none⟩), .int .i64 n] w fun e w' => e = .returned (.tuple #[.pointer none, .int .i64 2]) ∧ w = w' := by
  by_cases h1 : n < 1
  · clear h
    go_enter Tryz.func52, Tryz.ntmps52
    go_wp2
    go_returns
    exact ⟨rfl, rfl⟩
  · have h2 : 64 < n := by omega
    clear h
    go_enter Tryz.func52, Tryz.ntmps52
    go_wp2
    go_returns
    exact ⟨rfl, rfl⟩
theorem rcnew_good {w : World} {y q : Nat} {d : DS} {s : PS} {R : Nat → Prop} (hd : RD w y q d R) (hr : Rw w q (ref s)) (hq : ¬ R q) (hqt : q < w.heap.size) (n : Nat) (h1 : 1 ≤ n) (h2 : n ≤ 64) :
    Calls Tryz.prog 52 #[.pointer (some ⟨y, 0, none⟩), .int .i64 (n : Int)] w fun e w' => ∃ yc, e = .returned (.tuple #[.pointer (some ⟨yc, 0, none⟩), .int .i64 0]) ∧ w.heap.size ≤ yc ∧ Rx w' yc y q (CZ.new d (some s) n) s (.slice none 0 0) (fun x => x = yc) R ∧ Below w.heap.size w w' := by
  have a1 : (1 : Int) ≤ (n : Int) := by omega
  have a2 : (n : Int) ≤ 64 := by omega
  go_enter Tryz.func52, Tryz.ntmps52
  go_wp2
  go_returns
  have b2 : Below w.heap.size w (w.alloc (.cells #[.pointer (some ⟨y, 0, none⟩), .int .i64 (n : Int), .slice none 0 0, .int .i64 0, .int .i64 0] 181)) := (Below.refl _ w).alloc (Nat.le_refl _) _
  refine ⟨w.heap.size, rfl, Nat.le_refl _, ⟨hd.step (Stp.of_below b2 (fun _ => False)) (fun _ _ => id), rw_step hr (Stp.of_below b2 (fun _ => False)) id hqt, rfl, ?_, OwL.nil _, rfl, (fun r hr => by cases hr), fun x hx e => ?_, fun e => ?_, hq, fun x hx => ?_, Nat.lt_of_lt_of_le hqt b2.size⟩, b2⟩
  · exact Cs.made w [.pointer (some ⟨y, 0, none⟩), .int .i64 (n : Int), .slice none 0 0, .int .i64 0, .int .i64 0] 181 (by intro v hv; simp at hv; rcases hv with rfl | rfl | rfl | rfl <;> rfl)
  · have := hd.lt x e; omega
  · omega
  · subst hx; simp
set_option maxRecDepth 100000
def idx : El → Int → Nat
  | [], _ => 0
  | e :: r, i => if e.1 = i then 0 else idx r i + 1
def pos (l : El) (i : Int) : Int := match fndC l i with
  | none => -1
  | some _ => (idx l i : Int)
def Ra (u : World) (yc y q : Nat) (Z : CZ) (V : Nat → Prop) : Prop := ∃ s lv E R, Rx u yc y q Z s lv E R ∧ ∀ x, V x ↔ Rl q E R x
section
variable {u u' : World} {yc y q gc g : Nat} {sp : Value} {Z Z' : CZ} {V U B : Nat → Prop} {t : Nat}
theorem Ra.step (h : Ra u yc y q Z V) (k : Stp B u u') (hB : ∀ x, V x → ¬ B x) : Ra u' yc y q Z V := by
  obtain ⟨s, lv, E, R, H, hV⟩ := h
  exact ⟨s, lv, E, R, H.step k (fun x hx => hB x ((hV x).2 (.inl hx))) (fun x hx => hB x ((hV x).2 (.inr (.inl hx)))) (hB q ((hV q).2 (.inr (.inr rfl)))), hV⟩
end
end Go.Proofs.YtgdnhkdfcjpdiaaGreatDoor
