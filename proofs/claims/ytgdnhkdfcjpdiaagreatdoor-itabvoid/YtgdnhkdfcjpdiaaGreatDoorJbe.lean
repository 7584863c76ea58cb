/-
  Texts of my own, joined: no statement is proved here.
-/
import Derived.Great.BuildSlice
import Derived.Deep.CutBlock
import Derived.Lib.Walk
import Derived.Deep.RegionLaw
import Derived.Test.YtgdnhkdfcjpdiaaGreatDoorRows
import Derived.OpenShut
import Derived.Shelf.SlIterI.Sorted
import Derived.Shelf.SlIterI.Keys
import Derived.Test.YtgdnhkdfcjpdiaaGreatDoorJbc
set_option linter.unusedSimpArgs false
set_option linter.unusedVariables false
namespace Go.Proofs.YtgdnhkdfcjpdiaaGreatDoor
open Go.ChangeShapes Go.WideShapes Go.ChangeAt Go.RowKit
structure Rf (w : World) (g : Nat) (Z : GZ) (a : Option Addr) (c : Nat) (L : List Pe) (R : Nat → Prop) : Prop where
  cc : Cs w g [.int .i64 Z.last, .slice a L.length c]
  row : OwP w (.slice a L.length c) L
  ms : ∀ t ∈ L, PtM w R t.p t.d t.n
  rv : ∀ r, (Value.slice a L.length c).ownBlock = some r → R r
  rg : ¬ R g
  lt : ∀ x, R x → x < w.heap.size
  eq : L.map (·.p) = Z.l
  ok : Z.ok 2000
  nl : ∀ p ∈ Z.l, p.needs.length ≤ 100000
section
variable {w w' : World} {g : Nat} {Z : GZ} {a : Option Addr} {c : Nat} {L : List Pe} {R F : Nat → Prop}
theorem Rf.step (h : Rf w g Z a c L R) (k : Stp F w w') (hg : ¬ F g) (hR : ∀ x, R x → ¬ F x) : Rf w' g Z a c L R :=
  ⟨h.cc.step k hg, h.row.step k (fun r hr => hR r (h.rv r hr)), fun t ht => (h.ms t ht).step k hR, h.rv, h.rg, fun x hx => Nat.lt_of_lt_of_le (h.lt x hx) k.size, h.eq, h.ok, h.nl⟩
theorem Rf.later (h : Rf w g Z a c L R) (k : Below w.heap.size w w') : Rf w' g Z a c L R := h.step (Stp.of_below k (fun _ => False)) id (fun _ _ => id)
end
def Rh (w : World) (g : Nat) (Z : GZ) (R : Nat → Prop) : Prop := ∃ a c L, Rf w g Z a c L R
def qS (s : Int) (p : Pt) : Bool := decide (s < 0) || p.at' == s
def kS (s : Int) (p : Pt) : Bool := !(p.wr && qS s p)
set_option maxRecDepth 100000 in
set_option maxHeartbeats 2000000 in
theorem rnew_any (w : World) :
    Calls Tryz.prog 55 #[] w fun e w' => e = .returned (.pointer (some ⟨w.heap.size, 0, none⟩)) ∧ Rh w' w.heap.size GZ.new (fun _ => False) ∧ Below w.heap.size w w' := by
  have hc := Cs.made w [.int .i64 0, .slice none 0 0] 185 (by simp [Value.oneCell'])
  have ok0 : GZ.new.ok 2000 := ⟨List.Pairwise.nil, (fun p hp => by cases hp), (fun p hp => by cases hp), (fun p hp => by cases hp), (fun p hp => by cases hp), Int.le_refl _, by decide⟩
  go_enter Tryz.func55, Tryz.ntmps55
  go_wp2_with fail
  go_returns
  exact ⟨rfl, ⟨none, 0, [], hc, OwP.nil _, (fun t ht => by cases ht), (fun r hr => by cases hr), id, (fun x hx => hx.elim), rfl, ok0, (fun p hp => by cases hp)⟩, (Below.refl _ w).alloc (Nat.le_refl _) _⟩
structure PoI (w wr : World) (v : Value) (L : List Pe) (l : List Pt) : Prop where
  u : PuI w wr v L
  eq : L.map (·.p) = l
  ms : ∀ t ∈ L, PtM wr (fun x => Made w wr x ∧ v.ownBlock ≠ some x) t.p t.d t.n
theorem PoI.later {w wr w' : World} {v : Value} {L : List Pe} {l : List Pt} (h : PoI w wr v L l) (k : Below wr.heap.size wr w') : PoI w w' v L l := ⟨h.u.later k, h.eq, fun t ht => ((h.ms t ht).later k).mono (fun x hx => ⟨⟨hx.1.1, Nat.lt_of_lt_of_le hx.1.2 k.size⟩, hx.2⟩)⟩
theorem PoI.app {w wr w' : World} {v v' : Value} {L : List Pe} {l : List Pt} {p : Pt} {d n : Sv} {wm : World} (h : PoI w wr v L l) (m5 : PtM wr (Made wm wr) p d n) (hs : w.heap.size ≤ wm.heap.size) (hr : ∀ r, v.ownBlock = some r → r < wm.heap.size) (hA : Apd (wr.alloc (.cells (Pe.cs ⟨p, d, n⟩).toArray 112)) w.heap.size 112 9 v L.length 1 (fl L ++ Pe.cs ⟨p, d, n⟩) v' w') : PoI w w' v' (L ++ [⟨p, d, n⟩]) (l ++ [p]) := by
  have b0 : Below wr.heap.size wr (wr.alloc (.cells (Pe.cs ⟨p, d, n⟩).toArray 112)) := (Below.refl _ wr).alloc (Nat.le_refl _) _
  have I9 := h.u.app b0 hA
  obtain ⟨h1, h2, h3, h4, h5⟩ := hA
  have hsz := h4.size
  have hsz0 := b0.size
  have key : ∀ x, x < wr.heap.size → v.ownBlock ≠ some x → v'.ownBlock ≠ some x := fun x hx hv e => by
    rcases h3 with h3 | ⟨h3, _⟩
    · rw [h3] at e; exact hv e
    · rw [h3] at e; injection e with e; omega
  refine ⟨I9, by simp [h.eq], fun t ht => ?_⟩
  rcases List.mem_append.1 ht with ht | ht
  · exact ((((h.ms t ht).later b0).step h4 (fun x hx e => hx.2 e))).mono (fun x hx => ⟨⟨hx.1.1, by have := hx.1.2; omega⟩, key x hx.1.2 hx.2⟩)
  · rw [List.mem_singleton.1 ht]
    exact ((m5.later b0).step h4 (fun x hx e => by have := hr x e; have := hx.1; omega)).mono (fun x hx => ⟨⟨by have := hx.1; omega, by have := hx.2; omega⟩, key x hx.2 (fun e => by have := hr x e; have := hx.1; omega)⟩)
def gE (l : List Pt) (i : Int) : Int := if has l i then 0 else 5
def rbS (l : List Pt) (acc : List (Pt × Bool)) (p : Pt) : Bool := !p.wr && !held l p && acc.all fun t => t.1.wr || !meet t.1 p || t.2
def rbs (l : List Pt) : List (Pt × Bool) → List Pt → List (Pt × Bool)
  | acc, [] => acc
  | acc, p :: r => rbs l (acc ++ [(p, rbS l acc p)]) r
def rb (l : List Pt) (k : Nat) : List (Pt × Bool) := rbs l [] (l.take k)
def bV (l : List Bool) : List Value := l.map Value.bool
def wnt (is : List Int) (c : List Pt) (a : Pt) : Bool := is.contains a.id || c.any fun q => q.needs.contains a.id || (!q.wr && !a.wr && meet a q)
def nd (is : List Int) : List Pt → List Pt
  | [] => []
  | a :: t => if wnt is (nd is t) a then a :: nd is t else nd is t
def n1 (is : List Int) (i : Nat) (_ : Nat) (p : Pt) : Bool := (is.take i).contains p.id
def n2 (is : List Int) (l : List Pt) (m : Nat) (j : Nat) (p : Pt) : Bool := wnt is (nd is (l.drop (max m (j + 1)))) p
def n3 (is : List Int) (l : List Pt) (k : Nat) (p : Pt) (i : Nat) (j : Nat) (q : Pt) : Bool := n2 is l (k + 1) j q || (decide (j < k) && (p.needs.take i).contains q.id)
def n4 (is : List Int) (l : List Pt) (k : Nat) (p : Pt) (i : Nat) (j : Nat) (q : Pt) : Bool := n2 is l (k + 1) j q || (decide (j < k) && p.needs.contains q.id) || (decide (j < i) && !p.wr && !q.wr && meet q p)
end Go.Proofs.YtgdnhkdfcjpdiaaGreatDoor
