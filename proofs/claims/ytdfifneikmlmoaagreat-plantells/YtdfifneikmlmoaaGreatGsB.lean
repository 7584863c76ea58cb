/-
  Acts of layer 14 that came in: no statement is proved here.
-/
import Derived.Test.YtdfifneikmlmoaaGreatGsA
import Derived.Test.YtdfifneikmlmoaaGreatPtIn
import Derived.Test.YtdfifneikmlmoaaGreatBaseA
import Derived.Deep.RegionLaw
namespace Go.Proofs.YtdfifneikmlmoaaGreat
open Go.ChangeShapes Go.WideShapes Go.ChangeAt Go.RowKit
set_option linter.unusedVariables false
set_option linter.unusedSimpArgs false

/-- An act that came in. -/
structure Ac where
  d : Int
  n : Int
  p : Pt
  dv : Sv
  nv : Sv
  near : Bool
def Ac.cs (x : Ac) : List Value := .int .i64 x.d :: .int .i64 x.n :: (x.p.cs x.dv x.nv ++ [.bool x.near])
theorem Ac.cs_len (x : Ac) : x.cs.length = 12 := rfl
theorem Ac.cs_one (x : Ac) : ∀ v ∈ x.cs, v.oneCell' = true := by
  intro v hv
  unfold Ac.cs at hv
  simp only [List.mem_cons, List.mem_append, List.not_mem_nil, or_false] at hv
  rcases hv with rfl | rfl | hv | rfl
  · rfl
  · rfl
  · exact x.p.cs_one x.dv x.nv v hv
  · rfl
structure Ac.ok (x : Ac) (w : World) : Prop where
  d : wfi x.d
  n : wfi x.n
  p : x.p.wfp
  b : BsS w x.dv x.p.data
  i : InsS w x.nv x.p.needs
theorem Ac.ok.later {x : Ac} {w w' : World} (h : x.ok w) (hb : Below w.heap.size w w') : x.ok w' := ⟨h.d, h.n, h.p, h.b.later hb, h.i.later hb⟩
/-- A slice of acts. -/
structure Acs (w : World) (a : Option Addr) (n c : Nat) (l : List Ac) : Prop where
  len : l.length = n
  le : n ≤ c
  cap : c ≤ maxLen
  cell : 0 < n → ∃ b o, a = some ⟨b, o, none⟩ ∧ ∀ i, i < n → ∃ x : Ac, l[i]? = some x ∧ w.rangeAt b (o + i * 12) x.cs ∧ x.ok w
theorem Acs.later {w w' : World} {a : Option Addr} {n c : Nat} {l : List Ac} (h : Acs w a n c l) (hb : Below w.heap.size w w') : Acs w' a n c l :=
  ⟨h.len, h.le, h.cap, fun hn => by
    obtain ⟨b, o, e, hc⟩ := h.cell hn
    refine ⟨b, o, e, fun i hi => ?_⟩
    obtain ⟨x, e1, e2, e3⟩ := hc i hi
    exact ⟨x, e1, (Stp.of_below hb (fun _ => False)).range e2 id, e3.later hb⟩⟩
section
variable {H : Type} {enc : TypeId × Value → H} {w : World} {base : Nat} {spare : Nat → Bool} {held : Bool}
end
end Go.Proofs.YtdfifneikmlmoaaGreat
