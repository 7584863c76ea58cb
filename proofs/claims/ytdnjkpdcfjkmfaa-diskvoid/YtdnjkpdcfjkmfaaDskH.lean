/-
  What comes in at layer 4's statements: blocks, numbers, acts, opened: no statement is proved here.
-/
import Derived.Test.YtdnjkpdcfjkmfaaDskG
import Derived.OpenShut
namespace Go.Proofs.Ytdnjkpdcfjkmfaa
open Go.ChangeShapes Go.WideShapes Go.ChangeAt Go.RowKit
set_option linter.unusedVariables false

theorem okWide_arr {P : Program} {w : World} {r : Reach} {base : Nat} {t e : TypeId} {v : Value} {n : Nat} (ht : P.underlying t = some (.array n e)) (h : Value.okWide P w r base t v) : ∃ cs, v = .agg cs ∧ cs.size = P.cellsOf t := by
  simp only [Value.okWide, ht] at h
  obtain ⟨cs, h1, h2, _⟩ := h
  exact ⟨cs, h1, h2⟩
theorem blk_of_cells {cs : List Value} (hl : cs.length = 64) (h : ∀ i, i < 64 → ∃ a, cs[i]? = some (.int .u8 a) ∧ (Lit.int .u8 a).wf = true) : ∃ b : Blk, b.cs = cs := by
  refine ⟨⟨cs.map fun v => match v with | .int _ a => UInt8.ofNat a.toNat | _ => 0, by simp [hl]⟩, ?_⟩
  unfold Blk.cs Blk.l
  dsimp only
  apply List.ext_getElem?
  intro i
  by_cases hi : i < 64
  · obtain ⟨a, e, hw⟩ := h i hi
    have := bounds_u8 hw
    simp only [List.getElem?_map, e, Option.map_some, Extern.Stop.cell]
    congr 2
    have h1 : a.toNat < 256 := by omega
    rw [show (UInt8.ofNat a.toNat).toNat = a.toNat by simp; omega]
    show ((a.toNat : Nat) : Int) = a
    omega
  · rw [List.getElem?_eq_none (by simp; omega), List.getElem?_eq_none (by omega)]
section
variable {H : Type} {enc : TypeId × Value → H} {w : World} {base : Nat} {spare : Nat → Bool} {held : Bool}
theorem blk_of_trod {fuel : Nat} {cs : List Value} {x : DataW H × List MemPlace} (h : DataW.trod enc Try.prog w base spare held fuel 32 cs = some x) : ∃ b : Blk, b.cs = cs := by
  obtain ⟨xs, m, _, _, hl, hx, hi⟩ := DataW.trod_array u36 h
  have hl' : cs.length = 64 := hl.trans (by kernel_rfl)
  have h1 : Try.prog.cellsOf 5 = 1 := by kernel_rfl
  refine blk_of_cells hl' fun i hi' => ?_
  have hq := hi i hi'
  rw [h1, Nat.mul_one] at hq
  have hlx : i < xs.length := by omega
  rw [List.getElem?_eq_getElem hlx] at hq
  obtain ⟨a, e, _, hw⟩ := DataW.trod_int (k := .u8) (by kernel_rfl) hq
  refine ⟨a, ?_, hw⟩
  have : ((cs.drop i).take 1)[0]? = cs[i]? := by rw [List.getElem?_take, if_pos (by omega), List.getElem?_drop]; simp
  rw [← this, e]; rfl
theorem ins_open {w : World} {x : Addr} {n c : Nat} {zs : List Int} (hl : n ≤ c) (hm : c ≤ maxLen) (hz : n ≤ zs.length) (hcell : ∀ i, i < zs.length → w.cell? (x.add i) = some (.int .i64 (zs.getD i 0))) (hwz : ∀ k ∈ zs, (Lit.int .i64 k).wf = true) :
    Ins w (some x) n c (zs.take n) := by
  refine ⟨by simp; omega, hl, hm, fun k hk => hwz k (List.mem_of_mem_take hk), fun hn => ?_⟩
  obtain ⟨b, o, spot⟩ := x
  have h0 := hcell 0 (by omega)
  have hspot : spot = none := by simpa [Addr.add] using World.cell?_spot h0
  subst hspot
  refine ⟨b, o, rfl, fun i hi => ?_⟩
  have := hcell i (by omega)
  rw [Addr.add_lit] at this
  rw [this, List.getD_eq_getElem?_getD, List.getD_eq_getElem?_getD, List.getElem?_take, if_pos hi]
theorem ins_of_trod {fuel : Nat} {cs : List Value} {x : DataW H × List MemPlace} (h : DataW.trod enc Try.prog w base spare held fuel 23 cs = some x) : ∃ a n c l, cs = [.slice a n c] ∧ Ins w a n c l := by
  rcases open_ints (k := .i64) (e := 3) (by kernel_rfl) u3 (by kernel_rfl) h with ⟨hcs, _⟩ | ⟨a, l, c, zs, hcs, _, hl, hm, hz, _, hcell, hwz⟩
  · exact ⟨_, _, _, _, hcs, Ins.nilSlice w⟩
  · exact ⟨_, _, _, _, hcs, ins_open hl hm (by rw [hz]; split <;> omega) hcell hwz⟩
theorem ins_of_trod' {fuel : Nat} {cs : List Value} {x : DataW H × List MemPlace} (h : DataW.trod enc Try.prog w base spare held fuel 23 cs = some x) : ∃ a n c l, cs = [.slice a n c] ∧ Ins w a n c l ∧ (a = none → c = 0) := by
  rcases open_ints (k := .i64) (e := 3) (by kernel_rfl) u3 (by kernel_rfl) h with ⟨hcs, _⟩ | ⟨a, l, c, zs, hcs, _, hl, hm, hz, _, hcell, hwz⟩
  · exact ⟨_, _, _, _, hcs, Ins.nilSlice w, fun _ => rfl⟩
  · exact ⟨_, _, _, _, hcs, ins_open hl hm (by rw [hz]; split <;> omega) hcell hwz, fun e => by cases e⟩

/-- An act that came in. -/
structure AC where
  d : Int
  t : Int
  b : Blk
  ka : Option Addr
  kn : Nat
  kc : Nat
  kl : List Int
def AC.cs (x : AC) : List Value := .int .i64 x.d :: .int .i64 x.t :: (x.b.cs ++ [.slice x.ka x.kn x.kc])
theorem AC.cs_len (x : AC) : x.cs.length = 67 := by unfold AC.cs; simp [x.b.cs_len]
structure AC.ok (x : AC) (w : World) : Prop where
  d : (Lit.int .i64 x.d).wf = true
  t : (Lit.int .i64 x.t).wf = true
  k : Ins w x.ka x.kn x.kc x.kl
  z : x.ka = none → x.kc = 0
theorem AC.c1 {x : AC} {w : World} {b o : Nat} (h : w.rangeAt b o x.cs) : w.cell? ⟨b, o, none⟩ = some (.int .i64 x.d) := by have := h 0 (.int .i64 x.d) rfl; simpa using this
theorem AC.c2 {x : AC} {w : World} {b o : Nat} (h : w.rangeAt b o x.cs) : w.cell? ⟨b, o + 1, none⟩ = some (.int .i64 x.t) := by have := h 1 (.int .i64 x.t) rfl; simpa using this
theorem AC.c3 {x : AC} {w : World} {b o : Nat} (h : w.rangeAt b o x.cs) : w.rangeAt b (o + 2) x.b.cs := fun j v hv => by
  have hj : j < x.b.cs.length := (List.getElem?_eq_some_iff.1 hv).1
  have := h (j + 2) v (by unfold AC.cs; simp [List.getElem?_append_left hj, hv])
  rw [show o + 2 + j = o + (j + 2) by omega]; exact this
theorem AC.c4 {x : AC} {w : World} {b o : Nat} (h : w.rangeAt b o x.cs) : w.cell? ⟨b, o + 66, none⟩ = some (.slice x.ka x.kn x.kc) := by
  refine h 66 _ ?_
  unfold AC.cs
  simp only [List.getElem?_cons_succ, show (66 : Nat) = 64 + 1 + 1 from rfl]
  rw [List.getElem?_append_right (by rw [x.b.cs_len]; omega), x.b.cs_len]; rfl
theorem ac_of_trod {fuel : Nat} {cs : List Value} {x : DataW H × List MemPlace} (h : DataW.trod enc Try.prog w base spare held fuel 34 cs = some x) : ∃ a : AC, a.cs = cs ∧ a.ok w := by
  obtain ⟨fs, hfs, hf0, hf1, hf2, hf3⟩ : ∃ fs : Array Field, Try.prog.underlying 34 = some (.struct fs) ∧ (fs[0]?.map fun f => (f.offset, f.type)) = some (0, 3) ∧ (fs[1]?.map fun f => (f.offset, f.type)) = some (1, 3) ∧ (fs[2]?.map fun f => (f.offset, f.type)) = some (2, 32) ∧ (fs[3]?.map fun f => (f.offset, f.type)) = some (66, 23) :=
    ⟨_, Try.underlying34, rfl, rfl, rfl, rfl⟩
  have hsz : fs.size = 4 := by
    have e := Try.underlying34
    rw [hfs] at e; injection e with e; injection e with e; subst e; rfl
  obtain ⟨xs, m, _, _, hl, hx, hi⟩ := DataW.trod_struct hfs h
  have hl' : cs.length = 67 := hl.trans (by kernel_rfl)
  have ci : Try.prog.cellsOf 3 = 1 := by kernel_rfl
  have cb : Try.prog.cellsOf 32 = 64 := by kernel_rfl
  have cl : Try.prog.cellsOf 23 = 1 := by kernel_rfl
  have get : ∀ i o t, (fs[i]?.map fun f => (f.offset, f.type)) = some (o, t) → i < 4 → ∃ y, DataW.trod enc Try.prog w base spare held m t ((cs.drop o).take (Try.prog.cellsOf t)) = some y := fun i o t e hi4 => by
    cases ef : fs[i]? with
    | none => rw [ef] at e; cases e
    | some f =>
      rw [ef] at e
      simp only [Option.map_some, Option.some.injEq, Prod.mk.injEq] at e
      have := hi i f ef
      rw [e.1, e.2, List.getElem?_eq_getElem (by omega)] at this
      exact ⟨_, this⟩
  obtain ⟨_, g0⟩ := get 0 0 _ hf0 (by omega)
  obtain ⟨_, g1⟩ := get 1 1 _ hf1 (by omega)
  obtain ⟨_, g2⟩ := get 2 2 _ hf2 (by omega)
  obtain ⟨_, g3⟩ := get 3 66 _ hf3 (by omega)
  rw [ci] at g0 g1; rw [cb] at g2; rw [cl] at g3
  obtain ⟨d, e0, _, w0⟩ := DataW.trod_int u3 g0
  obtain ⟨t, e1, _, w1⟩ := DataW.trod_int u3 g1
  obtain ⟨b, e2⟩ := blk_of_trod g2
  obtain ⟨ka, kn, kc, kl, e3, hk, hkz⟩ := ins_of_trod' g3
  refine ⟨⟨d, t, b, ka, kn, kc, kl⟩, ?_, w0, w1, hk, hkz⟩
  unfold AC.cs
  simp only
  rcases cs with _ | ⟨v0, _ | ⟨v1, r⟩⟩
  · simp at hl'
  · simp at hl'
  · simp at e0 e1 e2 e3 hl'
    have e5 : r.drop 64 = [.slice ka kn kc] := by rw [← e3, List.take_of_length_le (by simp; omega)]
    rw [e0, e1, e2, ← e5, List.take_append_drop]
end
end Go.Proofs.Ytdnjkpdcfjkmfaa
