/-
  What comes in at layer 4's statements: blocks, numbers, acts, opened: no statement is proved here.
-/
import Derived.Test.YtecedklfdmbnpaaDskG
import Derived.OpenShut
namespace Go.Proofs.Ytecedklfdmbnpaa
open Go.ChangeShapes Go.WideShapes Go.ChangeAt Go.RowKit
set_option linter.unusedVariables false

theorem okWide_arr {P : Program} {w : World} {r : Reach} {base : Nat} {t e : TypeId} {v : Value} {n : Nat} (ht : P.underlying t = some (.array n e)) (h : Value.okWide P w r base t v) : ∃ cs, v = .agg cs ∧ cs.size = P.cellsOf t := by
  simp only [Value.okWide, ht] at h
  obtain ⟨cs, h1, h2, _⟩ := h
  exact ⟨cs, h1, h2⟩
theorem blk_of_cells {cs : List Value} (hl : cs.length = 64) (h : ∀ i, i < 64 → ∃ a, cs[i]? = some (.int .u8 a) ∧ (Lit.int .u8 a).wf = true) : ∃ b : Blk, b.cs = cs := by
  refine ⟨⟨cs.map fun v => match v with | .int _ a => UInt8.ofNat a.toNat | _ => 0, by simp [hl]⟩, ?_⟩
  unfold Blk.cs Blk.l
  dsimp only
  apply List.ext_getElem?
  intro i
  by_cases hi : i < 64
  · obtain ⟨a, e, hw⟩ := h i hi
    have := bounds_u8 hw
    simp only [List.getElem?_map, e, Option.map_some, Extern.Stop.cell]
    congr 2
    have h1 : a.toNat < 256 := by omega
    rw [show (UInt8.ofNat a.toNat).toNat = a.toNat by simp; omega]
    show ((a.toNat : Nat) : Int) = a
    omega
  · rw [List.getElem?_eq_none (by simp; omega), List.getElem?_eq_none (by omega)]
section
variable {H : Type} {enc : TypeId × Value → H} {w : World} {base : Nat} {spare : Nat → Bool} {held : Bool}
theorem blk_of_trod {fuel : Nat} {cs : List Value} {x : DataW H × List MemPlace} (h : DataW.trod enc Try.prog w base spare held fuel 42 cs = some x) : ∃ b : Blk, b.cs = cs := by
  obtain ⟨xs, m, _, _, hl, hx, hi⟩ := DataW.trod_array u36 h
  have hl' : cs.length = 64 := hl.trans (by kernel_rfl)
  have h1 : Try.prog.cellsOf 5 = 1 := by kernel_rfl
  refine blk_of_cells hl' fun i hi' => ?_
  have hq := hi i hi'
  rw [h1, Nat.mul_one] at hq
  have hlx : i < xs.length := by omega
  rw [List.getElem?_eq_getElem hlx] at hq
  obtain ⟨a, e, _, hw⟩ := DataW.trod_int (k := .u8) (by kernel_rfl) hq
  refine ⟨a, ?_, hw⟩
  have : ((cs.drop i).take 1)[0]? = cs[i]? := by rw [List.getElem?_take, if_pos (by omega), List.getElem?_drop]; simp
  rw [← this, e]; rfl
theorem ins_open {w : World} {x : Addr} {n c : Nat} {zs : List Int} (hl : n ≤ c) (hm : c ≤ maxLen) (hz : n ≤ zs.length) (hcell : ∀ i, i < zs.length → w.cell? (x.add i) = some (.int .i64 (zs.getD i 0))) (hwz : ∀ k ∈ zs, (Lit.int .i64 k).wf = true) :
    Ins w (some x) n c (zs.take n) := by
  refine ⟨by simp; omega, hl, hm, fun k hk => hwz k (List.mem_of_mem_take hk), fun hn => ?_⟩
  obtain ⟨b, o, spot⟩ := x
  have h0 := hcell 0 (by omega)
  have hspot : spot = none := by simpa [Addr.add] using World.cell?_spot h0
  subst hspot
  refine ⟨b, o, rfl, fun i hi => ?_⟩
  have := hcell i (by omega)
  rw [Addr.add_lit] at this
  rw [this, List.getD_eq_getElem?_getD, List.getD_eq_getElem?_getD, List.getElem?_take, if_pos hi]
theorem ins_of_trod {fuel : Nat} {cs : List Value} {x : DataW H × List MemPlace} (h : DataW.trod enc Try.prog w base spare held fuel 51 cs = some x) : ∃ a n c l, cs = [.slice a n c] ∧ Ins w a n c l := by
  rcases open_ints (k := .i64) (e := 3) (by kernel_rfl) u3 (by kernel_rfl) h with ⟨hcs, _⟩ | ⟨a, l, c, zs, hcs, _, hl, hm, hz, _, hcell, hwz⟩
  · exact ⟨_, _, _, _, hcs, Ins.nilSlice w⟩
  · exact ⟨_, _, _, _, hcs, ins_open hl hm (by rw [hz]; split <;> omega) hcell hwz⟩
theorem ins_of_trod' {fuel : Nat} {cs : List Value} {x : DataW H × List MemPlace} (h : DataW.trod enc Try.prog w base spare held fuel 51 cs = some x) : ∃ a n c l, cs = [.slice a n c] ∧ Ins w a n c l ∧ (a = none → c = 0) := by
  rcases open_ints (k := .i64) (e := 3) (by kernel_rfl) u3 (by kernel_rfl) h with ⟨hcs, _⟩ | ⟨a, l, c, zs, hcs, _, hl, hm, hz, _, hcell, hwz⟩
  · exact ⟨_, _, _, _, hcs, Ins.nilSlice w, fun _ => rfl⟩
  · exact ⟨_, _, _, _, hcs, ins_open hl hm (by rw [hz]; split <;> omega) hcell hwz, fun e => by cases e⟩

/-- An act that came in. -/
structure AC where
  d : Int
  t : Int
  b : Blk
  ka : Option Addr
  kn : Nat
  kc : Nat
  kl : List Int
def AC.cs (x : AC) : List Value := .int .i64 x.d :: .int .i64 x.t :: (x.b.cs ++ [.slice x.ka x.kn x.kc])
theorem AC.cs_len (x : AC) : x.cs.length = 67 := by unfold AC.cs; simp [x.b.cs_len]
structure AC.ok (x : AC) (w : World) : Prop where
  d : (Lit.int .i64 x.d).wf = true
  t : (Lit.int .i64 x.t).wf = true
  k : Ins w x.ka x.kn x.kc x.kl
  z : x.ka = none → x.kc = 0
theorem AC.c1 {x : AC} {w : World} {b o : Nat} (h : w.rangeAt b o x.cs) : w.cell? ⟨b, o, none⟩ = some (.int .i64 x.d) := by have := h 0 (.int .i64 x.d) rfl; simpa using this
theorem AC.c2 {x : AC} {w : World} {b o : Nat} (h : w.rangeAt b o x.cs) : w.cell? ⟨b, o + 1, none⟩ = some (.int .i64 x.t) := by have := h 1 (.int .i64 x.t) rfl; simpa using this
theorem AC.c3 {x : AC} {w : World} {b o : Nat} (h : w.rangeAt b o x.cs) : w.rangeAt b (o + 2) x.b.cs := fun j v hv => by
  have hj : j < x.b.cs.length := (List.getElem?_eq_some_iff.1 hv).1
  have := h (j + 2) v (by unfold AC.cs; simp [List.getElem?_append_left hj, hv])
  rw [show o + 2 + j = o + (j + 2) by omega]; exact this
theorem AC.c4 {x : AC} {w : World} {b o : Nat} (h : w.rangeAt b o x.cs) : w.cell? ⟨b, o + 66, none⟩ = some (.slice x.ka x.kn x.kc) := by
  refine h 66 _ ?_
  unfold AC.cs
  simp only [List.getElem?_cons_succ, show (66 : Nat) = 64 + 1 + 1 from rfl]
  rw [List.getElem?_append_right (by rw [x.b.cs_len]; omega), x.b.cs_len]; rfl
end
end Go.Proofs.Ytecedklfdmbnpaa
