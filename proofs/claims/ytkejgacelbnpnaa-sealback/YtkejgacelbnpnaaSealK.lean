/-
  What layer 7's statements begin with, and what comes in at them: no statement is proved here.
-/
import Derived.Test.YtkejgacelbnpnaaSealJ
import Derived.OpenShut
namespace Go.Proofs.Ytkejgacelbnpnaa
open Go.ChangeShapes Go.WideShapes Go.ChangeAt Go.RowKit
set_option linter.unusedVariables false

theorem okWide_row {P : Program} {w : World} {r : Reach} {base : Nat} {t e : TypeId} {v : Value} {n : Nat} (ht : P.underlying t = some (.array n e)) (h : Value.okWide P w r base t v) : ∃ cs, v = .agg cs ∧ cs.size = P.cellsOf t := by
  simp only [Value.okWide, ht] at h
  obtain ⟨cs, h1, h2, _⟩ := h
  exact ⟨cs, h1, h2⟩
theorem bytes_of_cells {cs : List Value} {n : Nat} (hl : cs.length = n) (h : ∀ i, i < n → ∃ a, cs[i]? = some (.int .u8 a) ∧ (Lit.int .u8 a).wf = true) : ∃ l : List UInt8, l.length = n ∧ cells l = cs := by
  refine ⟨cs.map fun v => match v with | .int _ a => UInt8.ofNat a.toNat | _ => 0, by simp [hl], ?_⟩
  apply List.ext_getElem?
  intro i
  by_cases hi : i < n
  · obtain ⟨a, e, hw⟩ := h i hi
    have := bounds_u8 hw
    simp only [List.getElem?_map, e, Option.map_some, Extern.Stop.cell]
    congr 2
    have h1 : a.toNat < 256 := by omega
    rw [show (UInt8.ofNat a.toNat).toNat = a.toNat by simp; omega]
    show ((a.toNat : Nat) : Int) = a
    omega
  · rw [List.getElem?_eq_none (by simp; omega), List.getElem?_eq_none (by omega)]
section
variable {H : Type} {enc : TypeId × Value → H} {w : World} {base : Nat} {spare : Nat → Bool} {held : Bool}
theorem bytes_of_trod {T n fuel : Nat} {cs : List Value} {x : DataW H × List MemPlace} (hT : Arr T n) (hn : Try.prog.cellsOf T = n) (h : DataW.trod enc Try.prog w base spare held fuel T cs = some x) : ∃ l : List UInt8, l.length = n ∧ cells l = cs := by
  obtain ⟨xs, m, _, _, hl, hx, hi⟩ := DataW.trod_array hT.und h
  have hl' : cs.length = n := hl.trans hn
  have h1 : Try.prog.cellsOf 5 = 1 := by kernel_rfl
  refine bytes_of_cells hl' fun i hi' => ?_
  have hq := hi i hi'
  rw [h1, Nat.mul_one] at hq
  have hlx : i < xs.length := by omega
  rw [List.getElem?_eq_getElem hlx] at hq
  obtain ⟨a, e, _, hw⟩ := DataW.trod_int (k := .u8) (by kernel_rfl) hq
  refine ⟨a, ?_, hw⟩
  have : ((cs.drop i).take 1)[0]? = cs[i]? := by rw [List.getElem?_take, if_pos (by omega), List.getElem?_drop]; simp
  rw [← this, e]; rfl
theorem blkOfTrod {fuel : Nat} {cs : List Value} {x : DataW H × List MemPlace} (h : DataW.trod enc Try.prog w base spare held fuel 26 cs = some x) : ∃ b : Blk, b.cs = cs := by
  obtain ⟨l, hl, e⟩ := bytes_of_trod arrB (by kernel_rfl) h
  exact ⟨⟨l, hl⟩, e⟩
theorem ldOfTrod {fuel : Nat} {cs : List Value} {x : DataW H × List MemPlace} (h : DataW.trod enc Try.prog w base spare held fuel 24 cs = some x) : ∃ b : Ld, b.cs = cs := by
  obtain ⟨l, hl, e⟩ := bytes_of_trod arrL (by kernel_rfl) h
  exact ⟨⟨l, hl⟩, e⟩
end
/-- The chapter's example. -/
def exB : Blk := sealK 4 1 Ld.zero
theorem exB_kind : oK exB = 4 := seal_kind 4 1 _ (by omega) (by omega) (by omega)
theorem exB_facts : byt exB 54 = 4 ∧ byt exB 55 = 251 ∧ gT 4 exB = 1 ∧ gE 4 exB = 0 := by
  have h := (right_is exB 4 (by omega) (by omega)).2 exB_kind
  have he : gE 4 exB = 0 := gE_yes (k := 4) (by omega) (by omega) exB_kind
  refine ⟨h.1, h.2.1, ?_, he⟩
  have h3 := gT_own (b := exB) (by rw [exB_kind]; omega)
  rw [exB_kind] at h3
  have h4 : oT exB = 1 := seal_turn 4 1 _ (by omega) (by omega) (by omega)
  rw [h4] at h3
  exact h3
theorem put_ex (w : World) : Calls Try.prog 8 #[.int .i64 4, .int .u32 1, .agg Ld.zero.cs.toArray] w fun e w' => e = .returned (.tuple #[.agg exB.cs.toArray, .int .i64 0]) ∧ Below w.heap.size w w' := put_any 4 1 Ld.zero w (by omega)
theorem get_ex (w : World) : Calls Try.prog 10 #[.int .i64 4, .agg exB.cs.toArray] w fun e w' => e = .returned (.tuple #[.agg (gP 4 exB).cs.toArray, .int .u32 1, .int .i64 0]) ∧ Below w.heap.size w w' := by
  refine (get_any 4 exB w).mono ?_
  rintro e w' ⟨rfl, b⟩
  obtain ⟨_, _, h3, h4⟩ := exB_facts
  rw [h3, h4]; exact ⟨rfl, b⟩
theorem kind_ex (w : World) : Calls Try.prog 12 #[.agg exB.cs.toArray] w fun e w' => e = .returned (.int .i64 4) ∧ Below w.heap.size w w' := by
  refine (kind_any exB w).mono ?_
  rintro e w' ⟨rfl, b⟩
  rw [exB_kind]; exact ⟨rfl, b⟩
set_option maxRecDepth 100000 in
set_option maxHeartbeats 1000000 in
theorem works_any (w : World) : Calls Try.prog 14 #[] w fun e w' => e = .returned (.bool true) ∧ Below w.heap.size w w' := by
  have hP := put_ex
  have hG := get_ex
  have hD := kind_ex
  have hF := exB_facts
  have hb := exB.len
  have hlp := (gP 4 exB).len
  generalize gP 4 exB = p at *
  generalize hX : exB = b at *
  obtain ⟨f1, f2, _, _⟩ := hF
  have f1' : (byt b 54 : Int) = 4 := by omega
  have f2' : (byt b 55 : Int) = 251 := by omega
  have H1 : Hid _ := hP
  have H2 : Hid _ := hG
  have H3 : Hid _ := hD
  clear hP hG hD hX f1 f2
  go_enter Try.func14, Try.ntmps14
  go_wp2_with (first
    | (refine at_getB (by rfl) _ (by rfl) gb (by rfl) b x5 ?_)
    | (refine at_getB (by rfl) _ (by rfl) gb (by rfl) b r3 ?_)
    | (refine at_bldL (by rfl) (by rfl) ?_)
    | (go_at_call 8; refine (H1.out _).mono ?_; rintro e w1 ⟨rfl, b1⟩)
    | (refine at_new 26 64 arrB (by rfl) (by rfl) ?_; intro gb w2 a2 z2 r2 b2)
    | (refine at_put 26 64 arrB (by rfl) _ _ (by rfl) gb (by rfl) b.l (by rfl) hb _ r2 (by simp) ?_; intro w3 r3 s3)
    | (go_at_call 10; refine (H2.out _).mono ?_; rintro e w4 ⟨rfl, b4⟩)
    | (refine at_new 24 54 arrL (by rfl) (by rfl) ?_; intro gp w5 a5 z5 r5 b5)
    | (refine at_put 24 54 arrL (by rfl) _ _ (by rfl) gp (by rfl) p.l (by rfl) hlp _ r5 (by simp) ?_; intro w6 r6 s6
       have x5 : Row w6 gb b.l := ((r3.later b4).later b5).step s6 (by have := r3.lt; have := b4.size; omega)
       have c54 : w6.cell? ⟨gb, 54, none⟩ = some (.int .u8 4) := by have := x5.cell 54 (by omega); rw [this]; exact congrArg (fun z => some (Value.int .u8 z)) f1'
       have c55 : w6.cell? ⟨gb, 55, none⟩ = some (.int .u8 251) := by have := x5.cell 55 (by omega); rw [this]; exact congrArg (fun z => some (Value.int .u8 z)) f2')
    | (go_at_call 12; refine (H3.out _).mono ?_; rintro e w7 ⟨rfl, b7⟩))
  have S2 : Stp (fun x => w.heap.size ≤ x) w w2 := Stp.of_below (bnext b1 b2 (Nat.le_refl _)) _
  have S3 := S2.next s3 (fun x hx => .inl (by subst hx; have := b1.size; omega))
  have S5 := S3.next (Stp.of_below (bnext b4 b5 (Nat.le_refl _)) (fun _ => False)) (fun _ h => h.elim)
  have S6 := S5.next s6 (fun x hx => .inl (by subst hx; have := S3.size; have := b4.size; omega))
  have S7 := S6.next (Stp.of_below b7 (fun _ => False)) (fun _ h => h.elim)
  go_returns
  exact ⟨rfl, S7.below (Nat.le_refl _) (fun _ h => h)⟩
end Go.Proofs.Ytkejgacelbnpnaa
